/-
  DERIVED. GIVEN WITH THE SEED: THE CARDS: each row of YtmhddjacjomnbaaGreatDoorRows.lean that lists a variable, with what it lists TIED to the program's text (the seventh form; the later family's looks); each row that meets fmt, with fmt's text TOLD by the authors' own Lean function (tested against real Go, not proved from fmt's source: count such statements apart). THE CARD IS WHAT COUNTS. Prove the row's statement (the work); the ties are given (YtmhddjacjomnbaaGreatDoorTie.lean); close each card by the builder's one call (the guide's Derived/Test/ToyasCard.lean, 'card_holds'). Laid BY PROGRAM, IN A SANDBOX (cutbox-door.mjs). By AI agents, Wed Nov 11 2026. No macro, syntax, notation, axiom, sorry.
-/
import Derived.Test.YtmhddjacjomnbaaGreatDoorRows
import GoSem.ClaimSeven
namespace Go.Proofs.YtmhddjacjomnbaaGreatDoor
namespace Rows

/-- THE TIED CARD OF 'ulplaw08.DdForms'. -/
def ddFormsCard : Claim7 := { stood := { row := ddFormsRow, standIns := [], harness := (true, "d00cd11e61d2448126d3782853e7ffcd6336c3982e8da39224017d7c4d5fb9c8"), looks := false }, kinds := [], alts := [], laidByText := true, laidKinds := [.data], laidTests := true, laidLooks := .later }
def DdFormsCardSaid : Prop := Claim7.holds Tryz.pinned (.plain (OpenSpec.ofChange ddFormsSpec)) ddFormsCard

/-- THE SECOND FORM's CARD OF 'ulplaw08.DdForms'. -/
def ddFormsUptoCard : Claim7 := { stood := { row := ddFormsUptoRow, standIns := [], harness := (true, "d00cd11e61d2448126d3782853e7ffcd6336c3982e8da39224017d7c4d5fb9c8"), looks := false }, kinds := [], alts := [], laidByText := true, laidKinds := [.data], laidTests := true, laidLooks := .later }
def DdFormsUptoCardSaid : Prop := Claim7.holds Tryz.pinned (.plain (OpenSpec.upto ddFormsSpec)) ddFormsUptoCard
end Rows
end Go.Proofs.YtmhddjacjomnbaaGreatDoor

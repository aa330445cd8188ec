/-
  DERIVED. GIVEN WITH THE SEED: THE CARDS: each row of YtbhneifafnoaiaaGreatDoorRows.lean that lists a variable, with what it lists TIED to the program's text (the seventh form; the later family's looks); each row that meets fmt, with fmt's text TOLD by the authors' own Lean function (tested against real Go, not proved from fmt's source: count such statements apart). THE CARD IS WHAT COUNTS. Prove the row's statement (the work); the ties are given (YtbhneifafnoaiaaGreatDoorTie.lean); close each card by the builder's one call (the guide's Derived/Test/ToyasCard.lean, 'card_holds'). Laid BY PROGRAM, IN A SANDBOX (cutbox-door.mjs). By AI agents, Wed Nov 11 2026. No macro, syntax, notation, axiom, sorry.
-/
import Derived.Test.YtbhneifafnoaiaaGreatDoorRows
import GoSem.ClaimSeven
namespace Go.Proofs.YtbhneifafnoaiaaGreatDoor
namespace Rows

/-- THE TIED CARD OF 'ulplaw06.IvalTells'. -/
def ivalTellsCard : Claim7 := { stood := { row := ivalTellsRow, standIns := [], harness := (true, "1778d3f9791233af99e0431c4ff7f1d5cd2187177bcbe1b0e36b690e13ac20b2"), looks := false }, kinds := [], alts := [], laidByText := true, laidKinds := [.data], laidTests := true, laidLooks := .later }
def IvalTellsCardSaid : Prop := Claim7.holds Tryz.pinned (.plain (OpenSpec.ofChange ivalTellsSpec)) ivalTellsCard

/-- THE SECOND FORM's CARD OF 'ulplaw06.IvalTells'. -/
def ivalTellsUptoCard : Claim7 := { stood := { row := ivalTellsUptoRow, standIns := [], harness := (true, "1778d3f9791233af99e0431c4ff7f1d5cd2187177bcbe1b0e36b690e13ac20b2"), looks := false }, kinds := [], alts := [], laidByText := true, laidKinds := [.data], laidTests := true, laidLooks := .later }
def IvalTellsUptoCardSaid : Prop := Claim7.holds Tryz.pinned (.plain (OpenSpec.upto ivalTellsSpec)) ivalTellsUptoCard
end Rows
end Go.Proofs.YtbhneifafnoaiaaGreatDoor

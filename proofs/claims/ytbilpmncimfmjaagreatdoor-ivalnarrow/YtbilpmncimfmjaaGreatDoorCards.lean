/-
  DERIVED. GIVEN WITH THE SEED: THE CARDS: each row of YtbilpmncimfmjaaGreatDoorRows.lean that lists a variable, with what it lists TIED to the program's text (the seventh form; the later family's looks); each row that meets fmt, with fmt's text TOLD by the authors' own Lean function (tested against real Go, not proved from fmt's source: count such statements apart). THE CARD IS WHAT COUNTS. Prove the row's statement (the work); the ties are given (YtbilpmncimfmjaaGreatDoorTie.lean); close each card by the builder's one call (the guide's Derived/Test/ToyasCard.lean, 'card_holds'). Laid BY PROGRAM, IN A SANDBOX (cutbox-door.mjs). By AI agents, Wed Nov 11 2026. No macro, syntax, notation, axiom, sorry.
-/
import Derived.Test.YtbilpmncimfmjaaGreatDoorRows
import GoSem.ClaimSeven
namespace Go.Proofs.YtbilpmncimfmjaaGreatDoor
namespace Rows

/-- THE TIED CARD OF 'ulplaw06.IvalNarrow'. -/
def ivalNarrowCard : Claim7 := { stood := { row := ivalNarrowRow, standIns := [], harness := (true, "aeb6017a3991c9d4ce8eab8f30f84276ec174766ab9d712ed3090542e377f98b"), looks := false }, kinds := [], alts := [], laidByText := true, laidKinds := [.data], laidTests := true, laidLooks := .later }
def IvalNarrowCardSaid : Prop := Claim7.holds Tryz.pinned (.plain (OpenSpec.ofChange ivalNarrowSpec)) ivalNarrowCard

/-- THE SECOND FORM's CARD OF 'ulplaw06.IvalNarrow'. -/
def ivalNarrowUptoCard : Claim7 := { stood := { row := ivalNarrowUptoRow, standIns := [], harness := (true, "aeb6017a3991c9d4ce8eab8f30f84276ec174766ab9d712ed3090542e377f98b"), looks := false }, kinds := [], alts := [], laidByText := true, laidKinds := [.data], laidTests := true, laidLooks := .later }
def IvalNarrowUptoCardSaid : Prop := Claim7.holds Tryz.pinned (.plain (OpenSpec.upto ivalNarrowSpec)) ivalNarrowUptoCard
end Rows
end Go.Proofs.YtbilpmncimfmjaaGreatDoor

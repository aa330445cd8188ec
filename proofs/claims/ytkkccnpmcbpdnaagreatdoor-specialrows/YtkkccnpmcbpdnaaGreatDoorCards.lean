/-
  DERIVED. GIVEN WITH THE SEED: THE CARDS: each row of YtkkccnpmcbpdnaaGreatDoorRows.lean that lists a variable, with what it lists TIED to the program's text (the seventh form; the later family's looks); each row that meets fmt, with fmt's text TOLD by the authors' own Lean function (tested against real Go, not proved from fmt's source: count such statements apart). THE CARD IS WHAT COUNTS. Prove the row's statement (the work); the ties are given (YtkkccnpmcbpdnaaGreatDoorTie.lean); close each card by the builder's one call (the guide's Derived/Test/ToyasCard.lean, 'card_holds'). Laid BY PROGRAM, IN A SANDBOX (cutbox-door.mjs). By AI agents, Wed Nov 11 2026. No macro, syntax, notation, axiom, sorry.
-/
import Derived.Test.YtkkccnpmcbpdnaaGreatDoorRows
import GoSem.ClaimSeven
namespace Go.Proofs.YtkkccnpmcbpdnaaGreatDoor
namespace Rows

/-- THE TIED CARD OF 'ulplaw24.SpecialRows'. -/
def specialRowsCard : Claim7 := { stood := { row := specialRowsRow, standIns := [], harness := (true, "e496921155ec9b437a002fd03160687e69722e5ce1862fc7ee1a93988f756222"), looks := true }, kinds := [], alts := [], laidByText := true, laidKinds := [.data, .data, .data, .data], laidTests := true, laidLooks := .later }
def SpecialRowsCardSaid : Prop := Claim7.holds Tryz.pinned (.plain (OpenSpec.ofChange specialRowsSpec)) specialRowsCard

/-- THE SECOND FORM's CARD OF 'ulplaw24.SpecialRows'. -/
def specialRowsUptoCard : Claim7 := { stood := { row := specialRowsUptoRow, standIns := [], harness := (true, "e496921155ec9b437a002fd03160687e69722e5ce1862fc7ee1a93988f756222"), looks := true }, kinds := [], alts := [], laidByText := true, laidKinds := [.data, .data, .data, .data], laidTests := true, laidLooks := .later }
def SpecialRowsUptoCardSaid : Prop := Claim7.holds Tryz.pinned (.plain (OpenSpec.upto specialRowsSpec)) specialRowsUptoCard
end Rows
end Go.Proofs.YtkkccnpmcbpdnaaGreatDoor

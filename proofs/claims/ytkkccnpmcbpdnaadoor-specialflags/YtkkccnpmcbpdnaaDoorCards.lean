/-
  DERIVED. GIVEN WITH THE SEED: THE CARDS: each row of YtkkccnpmcbpdnaaDoorRows.lean that lists a variable, with what it lists TIED to the program's text (the seventh form; the later family's looks); each row that meets fmt, with fmt's text TOLD by the authors' own Lean function (tested against real Go, not proved from fmt's source: count such statements apart). THE CARD IS WHAT COUNTS. Prove the row's statement (the work); the ties are given (YtkkccnpmcbpdnaaDoorTie.lean); close each card by the builder's one call (the guide's Derived/Test/ToyasCard.lean, 'card_holds'). Laid BY PROGRAM, IN A SANDBOX (cutbox-door.mjs). By AI agents, Wed Nov 11 2026. No macro, syntax, notation, axiom, sorry.
-/
import Derived.Test.YtkkccnpmcbpdnaaDoorRows
import GoSem.ClaimSeven
namespace Go.Proofs.YtkkccnpmcbpdnaaDoor
namespace Rows

/-- THE TIED CARD OF 'ulplaw24.SpecialNames'. -/
def specialNamesCard : Claim7 := { stood := { row := specialNamesRow, standIns := [], harness := (true, "c52d7e79494ee4b8b8d040761120c45fece8e5860e4c336c68e9b8745091982b"), looks := true }, kinds := [], alts := [], laidByText := true, laidKinds := [.data, .data, .data, .data], laidTests := true, laidLooks := .later }
def SpecialNamesCardSaid : Prop := Claim7.holds Tryd.pinned (.plain (OpenSpec.ofChange specialNamesSpec)) specialNamesCard

/-- THE TIED CARD OF 'ulplaw24.SpecialBack'. -/
def specialBackCard : Claim7 := { stood := { row := specialBackRow, standIns := [], harness := (true, "c52d7e79494ee4b8b8d040761120c45fece8e5860e4c336c68e9b8745091982b"), looks := true }, kinds := [], alts := [], laidByText := true, laidKinds := [.data, .data, .data, .data], laidTests := true, laidLooks := .later }
def SpecialBackCardSaid : Prop := Claim7.holds Tryd.pinned (.plain (OpenSpec.ofChange specialBackSpec)) specialBackCard

/-- THE TIED CARD OF 'ulplaw24.SpecialFlags'. -/
def specialFlagsCard : Claim7 := { stood := { row := specialFlagsRow, standIns := [], harness := (true, "c52d7e79494ee4b8b8d040761120c45fece8e5860e4c336c68e9b8745091982b"), looks := true }, kinds := [], alts := [], laidByText := true, laidKinds := [.data, .data, .data, .data], laidTests := true, laidLooks := .later }
def SpecialFlagsCardSaid : Prop := Claim7.holds Tryd.pinned (.plain (OpenSpec.ofChange specialFlagsSpec)) specialFlagsCard

/-- THE TIED CARD OF 'ulplaw24.SpecialOdd'. -/
def specialOddCard : Claim7 := { stood := { row := specialOddRow, standIns := [], harness := (true, "c52d7e79494ee4b8b8d040761120c45fece8e5860e4c336c68e9b8745091982b"), looks := true }, kinds := [], alts := [], laidByText := true, laidKinds := [.data, .data, .data, .data], laidTests := true, laidLooks := .later }
def SpecialOddCardSaid : Prop := Claim7.holds Tryd.pinned (.plain (OpenSpec.ofChange specialOddSpec)) specialOddCard

/-- THE TIED CARD OF 'ulplaw24.SpecialTurned'. -/
def specialTurnedCard : Claim7 := { stood := { row := specialTurnedRow, standIns := [], harness := (true, "c52d7e79494ee4b8b8d040761120c45fece8e5860e4c336c68e9b8745091982b"), looks := true }, kinds := [], alts := [], laidByText := true, laidKinds := [.data, .data, .data, .data], laidTests := true, laidLooks := .later }
def SpecialTurnedCardSaid : Prop := Claim7.holds Tryd.pinned (.plain (OpenSpec.ofChange specialTurnedSpec)) specialTurnedCard

/-- THE SECOND FORM's CARD OF 'ulplaw24.SpecialNames'. -/
def specialNamesUptoCard : Claim7 := { stood := { row := specialNamesUptoRow, standIns := [], harness := (true, "c52d7e79494ee4b8b8d040761120c45fece8e5860e4c336c68e9b8745091982b"), looks := true }, kinds := [], alts := [], laidByText := true, laidKinds := [.data, .data, .data, .data], laidTests := true, laidLooks := .later }
def SpecialNamesUptoCardSaid : Prop := Claim7.holds Tryd.pinned (.plain (OpenSpec.upto specialNamesSpec)) specialNamesUptoCard

/-- THE SECOND FORM's CARD OF 'ulplaw24.SpecialBack'. -/
def specialBackUptoCard : Claim7 := { stood := { row := specialBackUptoRow, standIns := [], harness := (true, "c52d7e79494ee4b8b8d040761120c45fece8e5860e4c336c68e9b8745091982b"), looks := true }, kinds := [], alts := [], laidByText := true, laidKinds := [.data, .data, .data, .data], laidTests := true, laidLooks := .later }
def SpecialBackUptoCardSaid : Prop := Claim7.holds Tryd.pinned (.plain (OpenSpec.upto specialBackSpec)) specialBackUptoCard

/-- THE SECOND FORM's CARD OF 'ulplaw24.SpecialFlags'. -/
def specialFlagsUptoCard : Claim7 := { stood := { row := specialFlagsUptoRow, standIns := [], harness := (true, "c52d7e79494ee4b8b8d040761120c45fece8e5860e4c336c68e9b8745091982b"), looks := true }, kinds := [], alts := [], laidByText := true, laidKinds := [.data, .data, .data, .data], laidTests := true, laidLooks := .later }
def SpecialFlagsUptoCardSaid : Prop := Claim7.holds Tryd.pinned (.plain (OpenSpec.upto specialFlagsSpec)) specialFlagsUptoCard

/-- THE SECOND FORM's CARD OF 'ulplaw24.SpecialOdd'. -/
def specialOddUptoCard : Claim7 := { stood := { row := specialOddUptoRow, standIns := [], harness := (true, "c52d7e79494ee4b8b8d040761120c45fece8e5860e4c336c68e9b8745091982b"), looks := true }, kinds := [], alts := [], laidByText := true, laidKinds := [.data, .data, .data, .data], laidTests := true, laidLooks := .later }
def SpecialOddUptoCardSaid : Prop := Claim7.holds Tryd.pinned (.plain (OpenSpec.upto specialOddSpec)) specialOddUptoCard

/-- THE SECOND FORM's CARD OF 'ulplaw24.SpecialTurned'. -/
def specialTurnedUptoCard : Claim7 := { stood := { row := specialTurnedUptoRow, standIns := [], harness := (true, "c52d7e79494ee4b8b8d040761120c45fece8e5860e4c336c68e9b8745091982b"), looks := true }, kinds := [], alts := [], laidByText := true, laidKinds := [.data, .data, .data, .data], laidTests := true, laidLooks := .later }
def SpecialTurnedUptoCardSaid : Prop := Claim7.holds Tryd.pinned (.plain (OpenSpec.upto specialTurnedSpec)) specialTurnedUptoCard
end Rows
end Go.Proofs.YtkkccnpmcbpdnaaDoor

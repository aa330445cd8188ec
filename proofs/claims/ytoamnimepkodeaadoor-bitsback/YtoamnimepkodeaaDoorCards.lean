/-
  DERIVED. GIVEN WITH THE SEED: THE CARDS: each row of YtoamnimepkodeaaDoorRows.lean that lists a variable, with what it lists TIED to the program's text (the seventh form; the later family's looks); each row that meets fmt, with fmt's text TOLD by the authors' own Lean function (tested against real Go, not proved from fmt's source: count such statements apart). THE CARD IS WHAT COUNTS. Prove the row's statement (the work); the ties are given (YtoamnimepkodeaaDoorTie.lean); close each card by the builder's one call (the guide's Derived/Test/ToyasCard.lean, 'card_holds'). Laid BY PROGRAM, IN A SANDBOX (cutbox-door.mjs). By AI agents, Wed Nov 11 2026. No macro, syntax, notation, axiom, sorry.
-/
import Derived.Test.YtoamnimepkodeaaDoorRows
import GoSem.ClaimSeven
namespace Go.Proofs.YtoamnimepkodeaaDoor
namespace Rows

/-- THE TIED CARD OF 'ulplaw01.BitsSplits'. -/
def bitsSplitsCard : Claim7 := { stood := { row := bitsSplitsRow, standIns := [], harness := (true, "9f94d8ef53f28c340625b256c1480fa63b4322e92a283df933cddc67e69a95cf"), looks := false }, kinds := [], alts := [], laidByText := true, laidKinds := [.data], laidTests := true, laidLooks := .later }
def BitsSplitsCardSaid : Prop := Claim7.holds Tryd.pinned (.plain (OpenSpec.ofChange bitsSplitsSpec)) bitsSplitsCard

/-- THE TIED CARD OF 'ulplaw01.BitsNexts'. -/
def bitsNextsCard : Claim7 := { stood := { row := bitsNextsRow, standIns := [], harness := (true, "9f94d8ef53f28c340625b256c1480fa63b4322e92a283df933cddc67e69a95cf"), looks := false }, kinds := [], alts := [], laidByText := true, laidKinds := [.data], laidTests := true, laidLooks := .later }
def BitsNextsCardSaid : Prop := Claim7.holds Tryd.pinned (.plain (OpenSpec.ofChange bitsNextsSpec)) bitsNextsCard

/-- THE TIED CARD OF 'ulplaw01.BitsOrders'. -/
def bitsOrdersCard : Claim7 := { stood := { row := bitsOrdersRow, standIns := [], harness := (true, "9f94d8ef53f28c340625b256c1480fa63b4322e92a283df933cddc67e69a95cf"), looks := false }, kinds := [], alts := [], laidByText := true, laidKinds := [.data], laidTests := true, laidLooks := .later }
def BitsOrdersCardSaid : Prop := Claim7.holds Tryd.pinned (.plain (OpenSpec.ofChange bitsOrdersSpec)) bitsOrdersCard

/-- THE TIED CARD OF 'ulplaw01.BitsBack'. -/
def bitsBackCard : Claim7 := { stood := { row := bitsBackRow, standIns := [], harness := (true, "9f94d8ef53f28c340625b256c1480fa63b4322e92a283df933cddc67e69a95cf"), looks := false }, kinds := [], alts := [], laidByText := true, laidKinds := [.data], laidTests := true, laidLooks := .later }
def BitsBackCardSaid : Prop := Claim7.holds Tryd.pinned (.plain (OpenSpec.ofChange bitsBackSpec)) bitsBackCard

/-- THE TIED CARD OF 'ulplaw01.BitsNear'. -/
def bitsNearCard : Claim7 := { stood := { row := bitsNearRow, standIns := [], harness := (true, "9f94d8ef53f28c340625b256c1480fa63b4322e92a283df933cddc67e69a95cf"), looks := false }, kinds := [], alts := [], laidByText := true, laidKinds := [.data], laidTests := true, laidLooks := .later }
def BitsNearCardSaid : Prop := Claim7.holds Tryd.pinned (.plain (OpenSpec.ofChange bitsNearSpec)) bitsNearCard

/-- THE TIED CARD OF 'ulplaw01.BitsTotal'. -/
def bitsTotalCard : Claim7 := { stood := { row := bitsTotalRow, standIns := [], harness := (true, "9f94d8ef53f28c340625b256c1480fa63b4322e92a283df933cddc67e69a95cf"), looks := false }, kinds := [], alts := [], laidByText := true, laidKinds := [.data], laidTests := true, laidLooks := .later }
def BitsTotalCardSaid : Prop := Claim7.holds Tryd.pinned (.plain (OpenSpec.ofChange bitsTotalSpec)) bitsTotalCard

/-- THE SECOND FORM's CARD OF 'ulplaw01.BitsSplits'. -/
def bitsSplitsUptoCard : Claim7 := { stood := { row := bitsSplitsUptoRow, standIns := [], harness := (true, "9f94d8ef53f28c340625b256c1480fa63b4322e92a283df933cddc67e69a95cf"), looks := false }, kinds := [], alts := [], laidByText := true, laidKinds := [.data], laidTests := true, laidLooks := .later }
def BitsSplitsUptoCardSaid : Prop := Claim7.holds Tryd.pinned (.plain (OpenSpec.upto bitsSplitsSpec)) bitsSplitsUptoCard

/-- THE SECOND FORM's CARD OF 'ulplaw01.BitsNexts'. -/
def bitsNextsUptoCard : Claim7 := { stood := { row := bitsNextsUptoRow, standIns := [], harness := (true, "9f94d8ef53f28c340625b256c1480fa63b4322e92a283df933cddc67e69a95cf"), looks := false }, kinds := [], alts := [], laidByText := true, laidKinds := [.data], laidTests := true, laidLooks := .later }
def BitsNextsUptoCardSaid : Prop := Claim7.holds Tryd.pinned (.plain (OpenSpec.upto bitsNextsSpec)) bitsNextsUptoCard

/-- THE SECOND FORM's CARD OF 'ulplaw01.BitsOrders'. -/
def bitsOrdersUptoCard : Claim7 := { stood := { row := bitsOrdersUptoRow, standIns := [], harness := (true, "9f94d8ef53f28c340625b256c1480fa63b4322e92a283df933cddc67e69a95cf"), looks := false }, kinds := [], alts := [], laidByText := true, laidKinds := [.data], laidTests := true, laidLooks := .later }
def BitsOrdersUptoCardSaid : Prop := Claim7.holds Tryd.pinned (.plain (OpenSpec.upto bitsOrdersSpec)) bitsOrdersUptoCard

/-- THE SECOND FORM's CARD OF 'ulplaw01.BitsBack'. -/
def bitsBackUptoCard : Claim7 := { stood := { row := bitsBackUptoRow, standIns := [], harness := (true, "9f94d8ef53f28c340625b256c1480fa63b4322e92a283df933cddc67e69a95cf"), looks := false }, kinds := [], alts := [], laidByText := true, laidKinds := [.data], laidTests := true, laidLooks := .later }
def BitsBackUptoCardSaid : Prop := Claim7.holds Tryd.pinned (.plain (OpenSpec.upto bitsBackSpec)) bitsBackUptoCard

/-- THE SECOND FORM's CARD OF 'ulplaw01.BitsNear'. -/
def bitsNearUptoCard : Claim7 := { stood := { row := bitsNearUptoRow, standIns := [], harness := (true, "9f94d8ef53f28c340625b256c1480fa63b4322e92a283df933cddc67e69a95cf"), looks := false }, kinds := [], alts := [], laidByText := true, laidKinds := [.data], laidTests := true, laidLooks := .later }
def BitsNearUptoCardSaid : Prop := Claim7.holds Tryd.pinned (.plain (OpenSpec.upto bitsNearSpec)) bitsNearUptoCard

/-- THE SECOND FORM's CARD OF 'ulplaw01.BitsTotal'. -/
def bitsTotalUptoCard : Claim7 := { stood := { row := bitsTotalUptoRow, standIns := [], harness := (true, "9f94d8ef53f28c340625b256c1480fa63b4322e92a283df933cddc67e69a95cf"), looks := false }, kinds := [], alts := [], laidByText := true, laidKinds := [.data], laidTests := true, laidLooks := .later }
def BitsTotalUptoCardSaid : Prop := Claim7.holds Tryd.pinned (.plain (OpenSpec.upto bitsTotalSpec)) bitsTotalUptoCard
end Rows
end Go.Proofs.YtoamnimepkodeaaDoor

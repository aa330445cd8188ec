/-
  DERIVED. GIVEN WITH THE SEED: THE CARDS: each row of YtoamnimepkodeacDoorRows.lean that lists a variable, with what it lists TIED to the program's text (the seventh form; the later family's looks); each row that meets fmt, with fmt's text TOLD by the authors' own Lean function (tested against real Go, not proved from fmt's source: count such statements apart). THE CARD IS WHAT COUNTS. Prove the row's statement (the work); the ties are given (YtoamnimepkodeacDoorTie.lean); close each card by the builder's one call (the guide's Derived/Test/ToyasCard.lean, 'card_holds'). Laid BY PROGRAM, IN A SANDBOX (cutbox-door.mjs). By AI agents, Wed Nov 11 2026. No macro, syntax, notation, axiom, sorry.
-/
import Derived.Test.YtoamnimepkodeacDoorRows
import GoSem.ClaimSeven
namespace Go.Proofs.YtoamnimepkodeacDoor
namespace Rows

/-- THE TIED CARD OF 'ulplaw02.FlagsRules'. -/
def flagsRulesCard : Claim7 := { stood := { row := flagsRulesRow, standIns := [], harness := (true, "645a520949ec128178ead34fc1b21b2073bc83b1a1e7830b1c0c9f915ed4f7c6"), looks := false }, kinds := [], alts := [], laidByText := true, laidKinds := [.data], laidTests := true, laidLooks := .later }
def FlagsRulesCardSaid : Prop := Claim7.holds Tryd.pinned (.plain (OpenSpec.ofChange flagsRulesSpec)) flagsRulesCard

/-- THE TIED CARD OF 'ulplaw02.FlagsBack'. -/
def flagsBackCard : Claim7 := { stood := { row := flagsBackRow, standIns := [], harness := (true, "645a520949ec128178ead34fc1b21b2073bc83b1a1e7830b1c0c9f915ed4f7c6"), looks := false }, kinds := [], alts := [], laidByText := true, laidKinds := [.data], laidTests := true, laidLooks := .later }
def FlagsBackCardSaid : Prop := Claim7.holds Tryd.pinned (.plain (OpenSpec.ofChange flagsBackSpec)) flagsBackCard

/-- THE TIED CARD OF 'ulplaw02.FlagsSticky'. -/
def flagsStickyCard : Claim7 := { stood := { row := flagsStickyRow, standIns := [], harness := (true, "645a520949ec128178ead34fc1b21b2073bc83b1a1e7830b1c0c9f915ed4f7c6"), looks := false }, kinds := [], alts := [], laidByText := true, laidKinds := [.data], laidTests := true, laidLooks := .later }
def FlagsStickyCardSaid : Prop := Claim7.holds Tryd.pinned (.plain (OpenSpec.ofChange flagsStickySpec)) flagsStickyCard

/-- THE TIED CARD OF 'ulplaw02.FlagsHeld'. -/
def flagsHeldCard : Claim7 := { stood := { row := flagsHeldRow, standIns := [], harness := (true, "645a520949ec128178ead34fc1b21b2073bc83b1a1e7830b1c0c9f915ed4f7c6"), looks := false }, kinds := [], alts := [], laidByText := true, laidKinds := [.data], laidTests := true, laidLooks := .later }
def FlagsHeldCardSaid : Prop := Claim7.holds Tryd.pinned (.plain (OpenSpec.ofChange flagsHeldSpec)) flagsHeldCard

/-- THE TIED CARD OF 'ulptop.TopKept'. -/
def topKeptCard : Claim7 := { stood := { row := topKeptRow, standIns := [], harness := (true, "645a520949ec128178ead34fc1b21b2073bc83b1a1e7830b1c0c9f915ed4f7c6"), looks := false }, kinds := [], alts := [], laidByText := true, laidKinds := [.data], laidTests := true, laidLooks := .later }
def TopKeptCardSaid : Prop := Claim7.holds Tryd.pinned (.plain (OpenSpec.ofChange topKeptSpec)) topKeptCard

/-- THE SECOND FORM's CARD OF 'ulplaw02.FlagsRules'. -/
def flagsRulesUptoCard : Claim7 := { stood := { row := flagsRulesUptoRow, standIns := [], harness := (true, "645a520949ec128178ead34fc1b21b2073bc83b1a1e7830b1c0c9f915ed4f7c6"), looks := false }, kinds := [], alts := [], laidByText := true, laidKinds := [.data], laidTests := true, laidLooks := .later }
def FlagsRulesUptoCardSaid : Prop := Claim7.holds Tryd.pinned (.plain (OpenSpec.upto flagsRulesSpec)) flagsRulesUptoCard

/-- THE SECOND FORM's CARD OF 'ulplaw02.FlagsBack'. -/
def flagsBackUptoCard : Claim7 := { stood := { row := flagsBackUptoRow, standIns := [], harness := (true, "645a520949ec128178ead34fc1b21b2073bc83b1a1e7830b1c0c9f915ed4f7c6"), looks := false }, kinds := [], alts := [], laidByText := true, laidKinds := [.data], laidTests := true, laidLooks := .later }
def FlagsBackUptoCardSaid : Prop := Claim7.holds Tryd.pinned (.plain (OpenSpec.upto flagsBackSpec)) flagsBackUptoCard

/-- THE SECOND FORM's CARD OF 'ulplaw02.FlagsSticky'. -/
def flagsStickyUptoCard : Claim7 := { stood := { row := flagsStickyUptoRow, standIns := [], harness := (true, "645a520949ec128178ead34fc1b21b2073bc83b1a1e7830b1c0c9f915ed4f7c6"), looks := false }, kinds := [], alts := [], laidByText := true, laidKinds := [.data], laidTests := true, laidLooks := .later }
def FlagsStickyUptoCardSaid : Prop := Claim7.holds Tryd.pinned (.plain (OpenSpec.upto flagsStickySpec)) flagsStickyUptoCard

/-- THE SECOND FORM's CARD OF 'ulplaw02.FlagsHeld'. -/
def flagsHeldUptoCard : Claim7 := { stood := { row := flagsHeldUptoRow, standIns := [], harness := (true, "645a520949ec128178ead34fc1b21b2073bc83b1a1e7830b1c0c9f915ed4f7c6"), looks := false }, kinds := [], alts := [], laidByText := true, laidKinds := [.data], laidTests := true, laidLooks := .later }
def FlagsHeldUptoCardSaid : Prop := Claim7.holds Tryd.pinned (.plain (OpenSpec.upto flagsHeldSpec)) flagsHeldUptoCard

/-- THE SECOND FORM's CARD OF 'ulptop.TopKept'. -/
def topKeptUptoCard : Claim7 := { stood := { row := topKeptUptoRow, standIns := [], harness := (true, "645a520949ec128178ead34fc1b21b2073bc83b1a1e7830b1c0c9f915ed4f7c6"), looks := false }, kinds := [], alts := [], laidByText := true, laidKinds := [.data], laidTests := true, laidLooks := .later }
def TopKeptUptoCardSaid : Prop := Claim7.holds Tryd.pinned (.plain (OpenSpec.upto topKeptSpec)) topKeptUptoCard
end Rows
end Go.Proofs.YtoamnimepkodeacDoor

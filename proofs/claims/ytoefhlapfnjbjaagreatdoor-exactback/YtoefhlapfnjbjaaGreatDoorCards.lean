/-
  DERIVED. GIVEN WITH THE SEED: THE CARDS: each row of YtoefhlapfnjbjaaGreatDoorRows.lean that lists a variable, with what it lists TIED to the program's text (the seventh form; the later family's looks); each row that meets fmt, with fmt's text TOLD by the authors' own Lean function (tested against real Go, not proved from fmt's source: count such statements apart). THE CARD IS WHAT COUNTS. Prove the row's statement (the work); the ties are given (YtoefhlapfnjbjaaGreatDoorTie.lean); close each card by the builder's one call (the guide's Derived/Test/ToyasCard.lean, 'card_holds'). Laid BY PROGRAM, IN A SANDBOX (cutbox-door.mjs). By AI agents, Wed Nov 11 2026. No macro, syntax, notation, axiom, sorry.
-/
import Derived.Test.YtoefhlapfnjbjaaGreatDoorRows
import GoSem.ClaimSeven
namespace Go.Proofs.YtoefhlapfnjbjaaGreatDoor
namespace Rows

/-- THE TIED CARD OF 'ulplaw23.ExactCases'. -/
def exactCasesCard : Claim7 := { stood := { row := exactCasesRow, standIns := [], harness := (true, "de727ccaf4b9cbd328e15cec0911676bdb7580ae5fc2f970014b4915906832ac"), looks := false }, kinds := [], alts := [], laidByText := true, laidKinds := [.data, .data, .data], laidTests := true, laidLooks := .later }
def ExactCasesCardSaid : Prop := Claim7.holds Tryz.pinned (.plain (OpenSpec.ofChange exactCasesSpec)) exactCasesCard

/-- THE TIED CARD OF 'ulplaw23.ExactPoints'. -/
def exactPointsCard : Claim7 := { stood := { row := exactPointsRow, standIns := [], harness := (true, "de727ccaf4b9cbd328e15cec0911676bdb7580ae5fc2f970014b4915906832ac"), looks := false }, kinds := [], alts := [], laidByText := true, laidKinds := [.data, .data, .data], laidTests := true, laidLooks := .later }
def ExactPointsCardSaid : Prop := Claim7.holds Tryz.pinned (.plain (OpenSpec.ofChange exactPointsSpec)) exactPointsCard

/-- THE TIED CARD OF 'ulplaw23.ExactFew'. -/
def exactFewCard : Claim7 := { stood := { row := exactFewRow, standIns := [], harness := (true, "de727ccaf4b9cbd328e15cec0911676bdb7580ae5fc2f970014b4915906832ac"), looks := false }, kinds := [], alts := [], laidByText := true, laidKinds := [.data, .data, .data], laidTests := true, laidLooks := .later }
def ExactFewCardSaid : Prop := Claim7.holds Tryz.pinned (.plain (OpenSpec.ofChange exactFewSpec)) exactFewCard

/-- THE TIED CARD OF 'ulplaw23.ExactBack'. -/
def exactBackCard : Claim7 := { stood := { row := exactBackRow, standIns := [], harness := (true, "de727ccaf4b9cbd328e15cec0911676bdb7580ae5fc2f970014b4915906832ac"), looks := false }, kinds := [], alts := [], laidByText := true, laidKinds := [.data, .data, .data], laidTests := true, laidLooks := .later }
def ExactBackCardSaid : Prop := Claim7.holds Tryz.pinned (.plain (OpenSpec.ofChange exactBackSpec)) exactBackCard

/-- THE TIED CARD OF 'ulplaw23.ExactMirror'. -/
def exactMirrorCard : Claim7 := { stood := { row := exactMirrorRow, standIns := [], harness := (true, "de727ccaf4b9cbd328e15cec0911676bdb7580ae5fc2f970014b4915906832ac"), looks := false }, kinds := [], alts := [], laidByText := true, laidKinds := [.data, .data, .data], laidTests := true, laidLooks := .later }
def ExactMirrorCardSaid : Prop := Claim7.holds Tryz.pinned (.plain (OpenSpec.ofChange exactMirrorSpec)) exactMirrorCard

/-- THE SECOND FORM's CARD OF 'ulplaw23.ExactCases'. -/
def exactCasesUptoCard : Claim7 := { stood := { row := exactCasesUptoRow, standIns := [], harness := (true, "de727ccaf4b9cbd328e15cec0911676bdb7580ae5fc2f970014b4915906832ac"), looks := false }, kinds := [], alts := [], laidByText := true, laidKinds := [.data, .data, .data], laidTests := true, laidLooks := .later }
def ExactCasesUptoCardSaid : Prop := Claim7.holds Tryz.pinned (.plain (OpenSpec.upto exactCasesSpec)) exactCasesUptoCard

/-- THE SECOND FORM's CARD OF 'ulplaw23.ExactPoints'. -/
def exactPointsUptoCard : Claim7 := { stood := { row := exactPointsUptoRow, standIns := [], harness := (true, "de727ccaf4b9cbd328e15cec0911676bdb7580ae5fc2f970014b4915906832ac"), looks := false }, kinds := [], alts := [], laidByText := true, laidKinds := [.data, .data, .data], laidTests := true, laidLooks := .later }
def ExactPointsUptoCardSaid : Prop := Claim7.holds Tryz.pinned (.plain (OpenSpec.upto exactPointsSpec)) exactPointsUptoCard

/-- THE SECOND FORM's CARD OF 'ulplaw23.ExactFew'. -/
def exactFewUptoCard : Claim7 := { stood := { row := exactFewUptoRow, standIns := [], harness := (true, "de727ccaf4b9cbd328e15cec0911676bdb7580ae5fc2f970014b4915906832ac"), looks := false }, kinds := [], alts := [], laidByText := true, laidKinds := [.data, .data, .data], laidTests := true, laidLooks := .later }
def ExactFewUptoCardSaid : Prop := Claim7.holds Tryz.pinned (.plain (OpenSpec.upto exactFewSpec)) exactFewUptoCard

/-- THE SECOND FORM's CARD OF 'ulplaw23.ExactBack'. -/
def exactBackUptoCard : Claim7 := { stood := { row := exactBackUptoRow, standIns := [], harness := (true, "de727ccaf4b9cbd328e15cec0911676bdb7580ae5fc2f970014b4915906832ac"), looks := false }, kinds := [], alts := [], laidByText := true, laidKinds := [.data, .data, .data], laidTests := true, laidLooks := .later }
def ExactBackUptoCardSaid : Prop := Claim7.holds Tryz.pinned (.plain (OpenSpec.upto exactBackSpec)) exactBackUptoCard

/-- THE SECOND FORM's CARD OF 'ulplaw23.ExactMirror'. -/
def exactMirrorUptoCard : Claim7 := { stood := { row := exactMirrorUptoRow, standIns := [], harness := (true, "de727ccaf4b9cbd328e15cec0911676bdb7580ae5fc2f970014b4915906832ac"), looks := false }, kinds := [], alts := [], laidByText := true, laidKinds := [.data, .data, .data], laidTests := true, laidLooks := .later }
def ExactMirrorUptoCardSaid : Prop := Claim7.holds Tryz.pinned (.plain (OpenSpec.upto exactMirrorSpec)) exactMirrorUptoCard
end Rows
end Go.Proofs.YtoefhlapfnjbjaaGreatDoor

/-
  DERIVED. GIVEN WITH THE SEED: THE CARDS: each row of YtfafhinjcligaaaDoorRows.lean that lists a variable, with what it lists TIED to the program's text (the seventh form; the later family's looks); each row that meets fmt, with fmt's text TOLD by the authors' own Lean function (tested against real Go, not proved from fmt's source: count such statements apart). THE CARD IS WHAT COUNTS. Prove the row's statement (the work); the ties are given (YtfafhinjcligaaaDoorTie.lean); close each card by the builder's one call (the guide's Derived/Test/ToyasCard.lean, 'card_holds'). Laid BY PROGRAM, IN A SANDBOX (cutbox-door.mjs). By AI agents, Wed Nov 11 2026. No macro, syntax, notation, axiom, sorry.
-/
import Derived.Test.YtfafhinjcligaaaDoorRows
import GoSem.ClaimSeven
namespace Go.Proofs.YtfafhinjcligaaaDoor
namespace Rows

/-- THE TIED CARD OF 'ulplaw03.NatProducts'. -/
def natProductsCard : Claim7 := { stood := { row := natProductsRow, standIns := [], harness := (true, "e4b9f1b425a0e6b4f19db78bdb50f264ebc22360676f297a36fd73a29806d128"), looks := false }, kinds := [], alts := [], laidByText := true, laidKinds := [.data, .data, .data], laidTests := true, laidLooks := .later }
def NatProductsCardSaid : Prop := Claim7.holds Tryd.pinned (.plain (OpenSpec.ofChange natProductsSpec)) natProductsCard

/-- THE TIED CARD OF 'ulplaw03.NatTexts'. -/
def natTextsCard : Claim7 := { stood := { row := natTextsRow, standIns := [], harness := (true, "e4b9f1b425a0e6b4f19db78bdb50f264ebc22360676f297a36fd73a29806d128"), looks := false }, kinds := [], alts := [], laidByText := true, laidKinds := [.data, .data, .data], laidTests := true, laidLooks := .later }
def NatTextsCardSaid : Prop := Claim7.holds Tryd.pinned (.plain (OpenSpec.ofChange natTextsSpec)) natTextsCard

/-- THE TIED CARD OF 'ulplaw03.NatWay'. -/
def natWayCard : Claim7 := { stood := { row := natWayRow, standIns := [], harness := (true, "e4b9f1b425a0e6b4f19db78bdb50f264ebc22360676f297a36fd73a29806d128"), looks := false }, kinds := [], alts := [], laidByText := true, laidKinds := [.data, .data, .data], laidTests := true, laidLooks := .later }
def NatWayCardSaid : Prop := Claim7.holds Tryd.pinned (.plain (OpenSpec.ofChange natWaySpec)) natWayCard

/-- THE TIED CARD OF 'ulplaw03.NatBetween'. -/
def natBetweenCard : Claim7 := { stood := { row := natBetweenRow, standIns := [], harness := (true, "e4b9f1b425a0e6b4f19db78bdb50f264ebc22360676f297a36fd73a29806d128"), looks := false }, kinds := [], alts := [], laidByText := true, laidKinds := [.data, .data, .data], laidTests := true, laidLooks := .later }
def NatBetweenCardSaid : Prop := Claim7.holds Tryd.pinned (.plain (OpenSpec.ofChange natBetweenSpec)) natBetweenCard

/-- THE SECOND FORM's CARD OF 'ulplaw03.NatProducts'. -/
def natProductsUptoCard : Claim7 := { stood := { row := natProductsUptoRow, standIns := [], harness := (true, "e4b9f1b425a0e6b4f19db78bdb50f264ebc22360676f297a36fd73a29806d128"), looks := false }, kinds := [], alts := [], laidByText := true, laidKinds := [.data, .data, .data], laidTests := true, laidLooks := .later }
def NatProductsUptoCardSaid : Prop := Claim7.holds Tryd.pinned (.plain (OpenSpec.upto natProductsSpec)) natProductsUptoCard

/-- THE SECOND FORM's CARD OF 'ulplaw03.NatTexts'. -/
def natTextsUptoCard : Claim7 := { stood := { row := natTextsUptoRow, standIns := [], harness := (true, "e4b9f1b425a0e6b4f19db78bdb50f264ebc22360676f297a36fd73a29806d128"), looks := false }, kinds := [], alts := [], laidByText := true, laidKinds := [.data, .data, .data], laidTests := true, laidLooks := .later }
def NatTextsUptoCardSaid : Prop := Claim7.holds Tryd.pinned (.plain (OpenSpec.upto natTextsSpec)) natTextsUptoCard

/-- THE SECOND FORM's CARD OF 'ulplaw03.NatWay'. -/
def natWayUptoCard : Claim7 := { stood := { row := natWayUptoRow, standIns := [], harness := (true, "e4b9f1b425a0e6b4f19db78bdb50f264ebc22360676f297a36fd73a29806d128"), looks := false }, kinds := [], alts := [], laidByText := true, laidKinds := [.data, .data, .data], laidTests := true, laidLooks := .later }
def NatWayUptoCardSaid : Prop := Claim7.holds Tryd.pinned (.plain (OpenSpec.upto natWaySpec)) natWayUptoCard

/-- THE SECOND FORM's CARD OF 'ulplaw03.NatBetween'. -/
def natBetweenUptoCard : Claim7 := { stood := { row := natBetweenUptoRow, standIns := [], harness := (true, "e4b9f1b425a0e6b4f19db78bdb50f264ebc22360676f297a36fd73a29806d128"), looks := false }, kinds := [], alts := [], laidByText := true, laidKinds := [.data, .data, .data], laidTests := true, laidLooks := .later }
def NatBetweenUptoCardSaid : Prop := Claim7.holds Tryd.pinned (.plain (OpenSpec.upto natBetweenSpec)) natBetweenUptoCard
end Rows
end Go.Proofs.YtfafhinjcligaaaDoor

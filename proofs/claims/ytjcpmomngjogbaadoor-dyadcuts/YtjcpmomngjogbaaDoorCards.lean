/-
  DERIVED. GIVEN WITH THE SEED: THE CARDS: each row of YtjcpmomngjogbaaDoorRows.lean that lists a variable, with what it lists TIED to the program's text (the seventh form; the later family's looks); each row that meets fmt, with fmt's text TOLD by the authors' own Lean function (tested against real Go, not proved from fmt's source: count such statements apart). THE CARD IS WHAT COUNTS. Prove the row's statement (the work); the ties are given (YtjcpmomngjogbaaDoorTie.lean); close each card by the builder's one call (the guide's Derived/Test/ToyasCard.lean, 'card_holds'). Laid BY PROGRAM, IN A SANDBOX (cutbox-door.mjs). By AI agents, Wed Nov 11 2026. No macro, syntax, notation, axiom, sorry.
-/
import Derived.Test.YtjcpmomngjogbaaDoorRows
import GoSem.ClaimSeven
namespace Go.Proofs.YtjcpmomngjogbaaDoor
namespace Rows

/-- THE TIED CARD OF 'ulplaw04.DyadForms'. -/
def dyadFormsCard : Claim7 := { stood := { row := dyadFormsRow, standIns := [], harness := (true, "4d0cd4deca8df6c708eb76950c239b13189423021f647b22c508a87b91a10899"), looks := false }, kinds := [], alts := [], laidByText := true, laidKinds := [.data], laidTests := true, laidLooks := .later }
def DyadFormsCardSaid : Prop := Claim7.holds Tryd.pinned (.plain (OpenSpec.ofChange dyadFormsSpec)) dyadFormsCard

/-- THE TIED CARD OF 'ulplaw04.DyadFloats'. -/
def dyadFloatsCard : Claim7 := { stood := { row := dyadFloatsRow, standIns := [], harness := (true, "4d0cd4deca8df6c708eb76950c239b13189423021f647b22c508a87b91a10899"), looks := false }, kinds := [], alts := [], laidByText := true, laidKinds := [.data], laidTests := true, laidLooks := .later }
def DyadFloatsCardSaid : Prop := Claim7.holds Tryd.pinned (.plain (OpenSpec.ofChange dyadFloatsSpec)) dyadFloatsCard

/-- THE TIED CARD OF 'ulplaw04.DyadCuts'. -/
def dyadCutsCard : Claim7 := { stood := { row := dyadCutsRow, standIns := [], harness := (true, "4d0cd4deca8df6c708eb76950c239b13189423021f647b22c508a87b91a10899"), looks := false }, kinds := [], alts := [], laidByText := true, laidKinds := [.data], laidTests := true, laidLooks := .later }
def DyadCutsCardSaid : Prop := Claim7.holds Tryd.pinned (.plain (OpenSpec.ofChange dyadCutsSpec)) dyadCutsCard

/-- THE SECOND FORM's CARD OF 'ulplaw04.DyadForms'. -/
def dyadFormsUptoCard : Claim7 := { stood := { row := dyadFormsUptoRow, standIns := [], harness := (true, "4d0cd4deca8df6c708eb76950c239b13189423021f647b22c508a87b91a10899"), looks := false }, kinds := [], alts := [], laidByText := true, laidKinds := [.data], laidTests := true, laidLooks := .later }
def DyadFormsUptoCardSaid : Prop := Claim7.holds Tryd.pinned (.plain (OpenSpec.upto dyadFormsSpec)) dyadFormsUptoCard

/-- THE SECOND FORM's CARD OF 'ulplaw04.DyadFloats'. -/
def dyadFloatsUptoCard : Claim7 := { stood := { row := dyadFloatsUptoRow, standIns := [], harness := (true, "4d0cd4deca8df6c708eb76950c239b13189423021f647b22c508a87b91a10899"), looks := false }, kinds := [], alts := [], laidByText := true, laidKinds := [.data], laidTests := true, laidLooks := .later }
def DyadFloatsUptoCardSaid : Prop := Claim7.holds Tryd.pinned (.plain (OpenSpec.upto dyadFloatsSpec)) dyadFloatsUptoCard

/-- THE SECOND FORM's CARD OF 'ulplaw04.DyadCuts'. -/
def dyadCutsUptoCard : Claim7 := { stood := { row := dyadCutsUptoRow, standIns := [], harness := (true, "4d0cd4deca8df6c708eb76950c239b13189423021f647b22c508a87b91a10899"), looks := false }, kinds := [], alts := [], laidByText := true, laidKinds := [.data], laidTests := true, laidLooks := .later }
def DyadCutsUptoCardSaid : Prop := Claim7.holds Tryd.pinned (.plain (OpenSpec.upto dyadCutsSpec)) dyadCutsUptoCard
end Rows
end Go.Proofs.YtjcpmomngjogbaaDoor

/-
  DERIVED. GIVEN WITH THE SEED: THE CARDS: each row of YtahpdcbmekgkfaaGreatDoorRows.lean that lists a variable, with what it lists TIED to the program's text (the seventh form; the later family's looks); each row that meets fmt, with fmt's text TOLD by the authors' own Lean function (tested against real Go, not proved from fmt's source: count such statements apart). THE CARD IS WHAT COUNTS. Prove the row's statement (the work); the ties are given (YtahpdcbmekgkfaaGreatDoorTie.lean); close each card by the builder's one call (the guide's Derived/Test/ToyasCard.lean, 'card_holds'). Laid BY PROGRAM, IN A SANDBOX (cutbox-door.mjs). By AI agents, Wed Nov 11 2026. No macro, syntax, notation, axiom, sorry.
-/
import Derived.Test.YtahpdcbmekgkfaaGreatDoorRows
import GoSem.ClaimSeven
namespace Go.Proofs.YtahpdcbmekgkfaaGreatDoor
namespace Rows

/-- THE TIED CARD OF 'ulplaw06.IvalTwos'. -/
def ivalTwosCard : Claim7 := { stood := { row := ivalTwosRow, standIns := [], harness := (true, "b2544456bb6ecbdfe09fb7fbbebe046ab7941e74668ca60bc32acfd2e9786563"), looks := false }, kinds := [], alts := [], laidByText := true, laidKinds := [.data], laidTests := true, laidLooks := .later }
def IvalTwosCardSaid : Prop := Claim7.holds Tryz.pinned (.plain (OpenSpec.ofChange ivalTwosSpec)) ivalTwosCard

/-- THE TIED CARD OF 'ulplaw06.IvalTurns'. -/
def ivalTurnsCard : Claim7 := { stood := { row := ivalTurnsRow, standIns := [], harness := (true, "b2544456bb6ecbdfe09fb7fbbebe046ab7941e74668ca60bc32acfd2e9786563"), looks := false }, kinds := [], alts := [], laidByText := true, laidKinds := [.data], laidTests := true, laidLooks := .later }
def IvalTurnsCardSaid : Prop := Claim7.holds Tryz.pinned (.plain (OpenSpec.ofChange ivalTurnsSpec)) ivalTurnsCard

/-- THE TIED CARD OF 'ulplaw06.IvalEncloses'. -/
def ivalEnclosesCard : Claim7 := { stood := { row := ivalEnclosesRow, standIns := [], harness := (true, "b2544456bb6ecbdfe09fb7fbbebe046ab7941e74668ca60bc32acfd2e9786563"), looks := false }, kinds := [], alts := [], laidByText := true, laidKinds := [.data], laidTests := true, laidLooks := .later }
def IvalEnclosesCardSaid : Prop := Claim7.holds Tryz.pinned (.plain (OpenSpec.ofChange ivalEnclosesSpec)) ivalEnclosesCard

/-- THE TIED CARD OF 'ulplaw06.IvalInclusion'. -/
def ivalInclusionCard : Claim7 := { stood := { row := ivalInclusionRow, standIns := [], harness := (true, "b2544456bb6ecbdfe09fb7fbbebe046ab7941e74668ca60bc32acfd2e9786563"), looks := false }, kinds := [], alts := [], laidByText := true, laidKinds := [.data], laidTests := true, laidLooks := .later }
def IvalInclusionCardSaid : Prop := Claim7.holds Tryz.pinned (.plain (OpenSpec.ofChange ivalInclusionSpec)) ivalInclusionCard

/-- THE TIED CARD OF 'ulplaw06.IvalBack'. -/
def ivalBackCard : Claim7 := { stood := { row := ivalBackRow, standIns := [], harness := (true, "b2544456bb6ecbdfe09fb7fbbebe046ab7941e74668ca60bc32acfd2e9786563"), looks := false }, kinds := [], alts := [], laidByText := true, laidKinds := [.data], laidTests := true, laidLooks := .later }
def IvalBackCardSaid : Prop := Claim7.holds Tryz.pinned (.plain (OpenSpec.ofChange ivalBackSpec)) ivalBackCard

/-- THE TIED CARD OF 'ulplaw06.IvalSharp'. -/
def ivalSharpCard : Claim7 := { stood := { row := ivalSharpRow, standIns := [], harness := (true, "b2544456bb6ecbdfe09fb7fbbebe046ab7941e74668ca60bc32acfd2e9786563"), looks := false }, kinds := [], alts := [], laidByText := true, laidKinds := [.data], laidTests := true, laidLooks := .later }
def IvalSharpCardSaid : Prop := Claim7.holds Tryz.pinned (.plain (OpenSpec.ofChange ivalSharpSpec)) ivalSharpCard

/-- THE TIED CARD OF 'ulplaw06.IvalOwn'. -/
def ivalOwnCard : Claim7 := { stood := { row := ivalOwnRow, standIns := [], harness := (true, "b2544456bb6ecbdfe09fb7fbbebe046ab7941e74668ca60bc32acfd2e9786563"), looks := false }, kinds := [], alts := [], laidByText := true, laidKinds := [.data], laidTests := true, laidLooks := .later }
def IvalOwnCardSaid : Prop := Claim7.holds Tryz.pinned (.plain (OpenSpec.ofChange ivalOwnSpec)) ivalOwnCard

/-- THE SECOND FORM's CARD OF 'ulplaw06.IvalTwos'. -/
def ivalTwosUptoCard : Claim7 := { stood := { row := ivalTwosUptoRow, standIns := [], harness := (true, "b2544456bb6ecbdfe09fb7fbbebe046ab7941e74668ca60bc32acfd2e9786563"), looks := false }, kinds := [], alts := [], laidByText := true, laidKinds := [.data], laidTests := true, laidLooks := .later }
def IvalTwosUptoCardSaid : Prop := Claim7.holds Tryz.pinned (.plain (OpenSpec.upto ivalTwosSpec)) ivalTwosUptoCard

/-- THE SECOND FORM's CARD OF 'ulplaw06.IvalTurns'. -/
def ivalTurnsUptoCard : Claim7 := { stood := { row := ivalTurnsUptoRow, standIns := [], harness := (true, "b2544456bb6ecbdfe09fb7fbbebe046ab7941e74668ca60bc32acfd2e9786563"), looks := false }, kinds := [], alts := [], laidByText := true, laidKinds := [.data], laidTests := true, laidLooks := .later }
def IvalTurnsUptoCardSaid : Prop := Claim7.holds Tryz.pinned (.plain (OpenSpec.upto ivalTurnsSpec)) ivalTurnsUptoCard

/-- THE SECOND FORM's CARD OF 'ulplaw06.IvalEncloses'. -/
def ivalEnclosesUptoCard : Claim7 := { stood := { row := ivalEnclosesUptoRow, standIns := [], harness := (true, "b2544456bb6ecbdfe09fb7fbbebe046ab7941e74668ca60bc32acfd2e9786563"), looks := false }, kinds := [], alts := [], laidByText := true, laidKinds := [.data], laidTests := true, laidLooks := .later }
def IvalEnclosesUptoCardSaid : Prop := Claim7.holds Tryz.pinned (.plain (OpenSpec.upto ivalEnclosesSpec)) ivalEnclosesUptoCard

/-- THE SECOND FORM's CARD OF 'ulplaw06.IvalInclusion'. -/
def ivalInclusionUptoCard : Claim7 := { stood := { row := ivalInclusionUptoRow, standIns := [], harness := (true, "b2544456bb6ecbdfe09fb7fbbebe046ab7941e74668ca60bc32acfd2e9786563"), looks := false }, kinds := [], alts := [], laidByText := true, laidKinds := [.data], laidTests := true, laidLooks := .later }
def IvalInclusionUptoCardSaid : Prop := Claim7.holds Tryz.pinned (.plain (OpenSpec.upto ivalInclusionSpec)) ivalInclusionUptoCard

/-- THE SECOND FORM's CARD OF 'ulplaw06.IvalBack'. -/
def ivalBackUptoCard : Claim7 := { stood := { row := ivalBackUptoRow, standIns := [], harness := (true, "b2544456bb6ecbdfe09fb7fbbebe046ab7941e74668ca60bc32acfd2e9786563"), looks := false }, kinds := [], alts := [], laidByText := true, laidKinds := [.data], laidTests := true, laidLooks := .later }
def IvalBackUptoCardSaid : Prop := Claim7.holds Tryz.pinned (.plain (OpenSpec.upto ivalBackSpec)) ivalBackUptoCard

/-- THE SECOND FORM's CARD OF 'ulplaw06.IvalSharp'. -/
def ivalSharpUptoCard : Claim7 := { stood := { row := ivalSharpUptoRow, standIns := [], harness := (true, "b2544456bb6ecbdfe09fb7fbbebe046ab7941e74668ca60bc32acfd2e9786563"), looks := false }, kinds := [], alts := [], laidByText := true, laidKinds := [.data], laidTests := true, laidLooks := .later }
def IvalSharpUptoCardSaid : Prop := Claim7.holds Tryz.pinned (.plain (OpenSpec.upto ivalSharpSpec)) ivalSharpUptoCard

/-- THE SECOND FORM's CARD OF 'ulplaw06.IvalOwn'. -/
def ivalOwnUptoCard : Claim7 := { stood := { row := ivalOwnUptoRow, standIns := [], harness := (true, "b2544456bb6ecbdfe09fb7fbbebe046ab7941e74668ca60bc32acfd2e9786563"), looks := false }, kinds := [], alts := [], laidByText := true, laidKinds := [.data], laidTests := true, laidLooks := .later }
def IvalOwnUptoCardSaid : Prop := Claim7.holds Tryz.pinned (.plain (OpenSpec.upto ivalOwnSpec)) ivalOwnUptoCard
end Rows
end Go.Proofs.YtahpdcbmekgkfaaGreatDoor

/-
  DERIVED. GIVEN WITH THE SEED: THE CARDS: each row of YtiijfnaaekmpbaaGreatDoorRows.lean that lists a variable, with what it lists TIED to the program's text (the seventh form; the later family's looks); each row that meets fmt, with fmt's text TOLD by the authors' own Lean function (tested against real Go, not proved from fmt's source: count such statements apart). THE CARD IS WHAT COUNTS. Prove the row's statement (the work); the ties are given (YtiijfnaaekmpbaaGreatDoorTie.lean); close each card by the builder's one call (the guide's Derived/Test/ToyasCard.lean, 'card_holds'). Laid BY PROGRAM, IN A SANDBOX (cutbox-door.mjs). By AI agents, Wed Nov 11 2026. No macro, syntax, notation, axiom, sorry.
-/
import Derived.Test.YtiijfnaaekmpbaaGreatDoorRows
import GoSem.ClaimSeven
namespace Go.Proofs.YtiijfnaaekmpbaaGreatDoor
namespace Rows

/-- THE TIED CARD OF 'ulplaw23.ExactCases'. -/
def exactCasesCard : Claim7 := { stood := { row := exactCasesRow, standIns := [], harness := (true, "a1797d55f963babb7e13cc2c2bb07f4c92cb562f6821cc7affa0c6cb394173c1"), looks := false }, kinds := [], alts := [], laidByText := true, laidKinds := [.data, .data, .data], laidTests := true, laidLooks := .later }
def ExactCasesCardSaid : Prop := Claim7.holds Tryz.pinned (.plain (OpenSpec.ofChange exactCasesSpec)) exactCasesCard

/-- THE TIED CARD OF 'ulplaw23.ExactPoints'. -/
def exactPointsCard : Claim7 := { stood := { row := exactPointsRow, standIns := [], harness := (true, "a1797d55f963babb7e13cc2c2bb07f4c92cb562f6821cc7affa0c6cb394173c1"), looks := false }, kinds := [], alts := [], laidByText := true, laidKinds := [.data, .data, .data], laidTests := true, laidLooks := .later }
def ExactPointsCardSaid : Prop := Claim7.holds Tryz.pinned (.plain (OpenSpec.ofChange exactPointsSpec)) exactPointsCard

/-- THE TIED CARD OF 'ulplaw23.ExactOwn'. -/
def exactOwnCard : Claim7 := { stood := { row := exactOwnRow, standIns := [], harness := (true, "a1797d55f963babb7e13cc2c2bb07f4c92cb562f6821cc7affa0c6cb394173c1"), looks := false }, kinds := [], alts := [], laidByText := true, laidKinds := [.data, .data, .data], laidTests := true, laidLooks := .later }
def ExactOwnCardSaid : Prop := Claim7.holds Tryz.pinned (.plain (OpenSpec.ofChange exactOwnSpec)) exactOwnCard

/-- THE SECOND FORM's CARD OF 'ulplaw23.ExactCases'. -/
def exactCasesUptoCard : Claim7 := { stood := { row := exactCasesUptoRow, standIns := [], harness := (true, "a1797d55f963babb7e13cc2c2bb07f4c92cb562f6821cc7affa0c6cb394173c1"), looks := false }, kinds := [], alts := [], laidByText := true, laidKinds := [.data, .data, .data], laidTests := true, laidLooks := .later }
def ExactCasesUptoCardSaid : Prop := Claim7.holds Tryz.pinned (.plain (OpenSpec.upto exactCasesSpec)) exactCasesUptoCard

/-- THE SECOND FORM's CARD OF 'ulplaw23.ExactPoints'. -/
def exactPointsUptoCard : Claim7 := { stood := { row := exactPointsUptoRow, standIns := [], harness := (true, "a1797d55f963babb7e13cc2c2bb07f4c92cb562f6821cc7affa0c6cb394173c1"), looks := false }, kinds := [], alts := [], laidByText := true, laidKinds := [.data, .data, .data], laidTests := true, laidLooks := .later }
def ExactPointsUptoCardSaid : Prop := Claim7.holds Tryz.pinned (.plain (OpenSpec.upto exactPointsSpec)) exactPointsUptoCard

/-- THE SECOND FORM's CARD OF 'ulplaw23.ExactOwn'. -/
def exactOwnUptoCard : Claim7 := { stood := { row := exactOwnUptoRow, standIns := [], harness := (true, "a1797d55f963babb7e13cc2c2bb07f4c92cb562f6821cc7affa0c6cb394173c1"), looks := false }, kinds := [], alts := [], laidByText := true, laidKinds := [.data, .data, .data], laidTests := true, laidLooks := .later }
def ExactOwnUptoCardSaid : Prop := Claim7.holds Tryz.pinned (.plain (OpenSpec.upto exactOwnSpec)) exactOwnUptoCard
end Rows
end Go.Proofs.YtiijfnaaekmpbaaGreatDoor

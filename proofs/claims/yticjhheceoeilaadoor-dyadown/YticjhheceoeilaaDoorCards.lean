/-
  DERIVED. GIVEN WITH THE SEED: THE CARDS: each row of YticjhheceoeilaaDoorRows.lean that lists a variable, with what it lists TIED to the program's text (the seventh form; the later family's looks); each row that meets fmt, with fmt's text TOLD by the authors' own Lean function (tested against real Go, not proved from fmt's source: count such statements apart). THE CARD IS WHAT COUNTS. Prove the row's statement (the work); the ties are given (YticjhheceoeilaaDoorTie.lean); close each card by the builder's one call (the guide's Derived/Test/ToyasCard.lean, 'card_holds'). Laid BY PROGRAM, IN A SANDBOX (cutbox-door.mjs). By AI agents, Wed Nov 11 2026. No macro, syntax, notation, axiom, sorry.
-/
import Derived.Test.YticjhheceoeilaaDoorRows
import GoSem.ClaimSeven
namespace Go.Proofs.YticjhheceoeilaaDoor
namespace Rows

/-- THE TIED CARD OF 'ulplaw04.DyadRing'. -/
def dyadRingCard : Claim7 := { stood := { row := dyadRingRow, standIns := [], harness := (true, "b6e9e9d765794425046112ae37032e71566584b8099f38b6988ad59e1bf39077"), looks := false }, kinds := [], alts := [], laidByText := true, laidKinds := [.data], laidTests := true, laidLooks := .later }
def DyadRingCardSaid : Prop := Claim7.holds Tryd.pinned (.plain (OpenSpec.ofChange dyadRingSpec)) dyadRingCard

/-- THE TIED CARD OF 'ulplaw04.DyadOwn'. -/
def dyadOwnCard : Claim7 := { stood := { row := dyadOwnRow, standIns := [], harness := (true, "b6e9e9d765794425046112ae37032e71566584b8099f38b6988ad59e1bf39077"), looks := false }, kinds := [], alts := [], laidByText := true, laidKinds := [.data], laidTests := true, laidLooks := .later }
def DyadOwnCardSaid : Prop := Claim7.holds Tryd.pinned (.plain (OpenSpec.ofChange dyadOwnSpec)) dyadOwnCard

/-- THE SECOND FORM's CARD OF 'ulplaw04.DyadRing'. -/
def dyadRingUptoCard : Claim7 := { stood := { row := dyadRingUptoRow, standIns := [], harness := (true, "b6e9e9d765794425046112ae37032e71566584b8099f38b6988ad59e1bf39077"), looks := false }, kinds := [], alts := [], laidByText := true, laidKinds := [.data], laidTests := true, laidLooks := .later }
def DyadRingUptoCardSaid : Prop := Claim7.holds Tryd.pinned (.plain (OpenSpec.upto dyadRingSpec)) dyadRingUptoCard

/-- THE SECOND FORM's CARD OF 'ulplaw04.DyadOwn'. -/
def dyadOwnUptoCard : Claim7 := { stood := { row := dyadOwnUptoRow, standIns := [], harness := (true, "b6e9e9d765794425046112ae37032e71566584b8099f38b6988ad59e1bf39077"), looks := false }, kinds := [], alts := [], laidByText := true, laidKinds := [.data], laidTests := true, laidLooks := .later }
def DyadOwnUptoCardSaid : Prop := Claim7.holds Tryd.pinned (.plain (OpenSpec.upto dyadOwnSpec)) dyadOwnUptoCard
end Rows
end Go.Proofs.YticjhheceoeilaaDoor

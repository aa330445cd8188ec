/-
  DERIVED. GIVEN WITH THE SEED: THE CARDS: each row of YtblcddcecmbkbaaDoorRows.lean that lists a variable, with what it lists TIED to the program's text (the seventh form; the later family's looks); each row that meets fmt, with fmt's text TOLD by the authors' own Lean function (tested against real Go, not proved from fmt's source: count such statements apart). THE CARD IS WHAT COUNTS. Prove the row's statement (the work); the ties are given (YtblcddcecmbkbaaDoorTie.lean); close each card by the builder's one call (the guide's Derived/Test/ToyasCard.lean, 'card_holds'). Laid BY PROGRAM, IN A SANDBOX (cutbox-door.mjs). By AI agents, Wed Nov 11 2026. No macro, syntax, notation, axiom, sorry.
-/
import Derived.Test.YtblcddcecmbkbaaDoorRows
import GoSem.ClaimSeven
namespace Go.Proofs.YtblcddcecmbkbaaDoor
namespace Rows

/-- THE TIED CARD OF 'ulplaw04.DyadRing'. -/
def dyadRingCard : Claim7 := { stood := { row := dyadRingRow, standIns := [], harness := (true, "426d7dbd63a9857c056bf8d7259a4988c96b18a9836cdc7988d4d37a45196cd8"), looks := false }, kinds := [], alts := [], laidByText := true, laidKinds := [.data], laidTests := true, laidLooks := .later }
def DyadRingCardSaid : Prop := Claim7.holds Tryd.pinned (.plain (OpenSpec.ofChange dyadRingSpec)) dyadRingCard

/-- THE TIED CARD OF 'ulplaw04.DyadShifts'. -/
def dyadShiftsCard : Claim7 := { stood := { row := dyadShiftsRow, standIns := [], harness := (true, "426d7dbd63a9857c056bf8d7259a4988c96b18a9836cdc7988d4d37a45196cd8"), looks := false }, kinds := [], alts := [], laidByText := true, laidKinds := [.data], laidTests := true, laidLooks := .later }
def DyadShiftsCardSaid : Prop := Claim7.holds Tryd.pinned (.plain (OpenSpec.ofChange dyadShiftsSpec)) dyadShiftsCard

/-- THE TIED CARD OF 'ulplaw04.DyadExact'. -/
def dyadExactCard : Claim7 := { stood := { row := dyadExactRow, standIns := [], harness := (true, "426d7dbd63a9857c056bf8d7259a4988c96b18a9836cdc7988d4d37a45196cd8"), looks := false }, kinds := [], alts := [], laidByText := true, laidKinds := [.data], laidTests := true, laidLooks := .later }
def DyadExactCardSaid : Prop := Claim7.holds Tryd.pinned (.plain (OpenSpec.ofChange dyadExactSpec)) dyadExactCard

/-- THE TIED CARD OF 'ulplaw04.DyadCut'. -/
def dyadCutCard : Claim7 := { stood := { row := dyadCutRow, standIns := [], harness := (true, "426d7dbd63a9857c056bf8d7259a4988c96b18a9836cdc7988d4d37a45196cd8"), looks := false }, kinds := [], alts := [], laidByText := true, laidKinds := [.data], laidTests := true, laidLooks := .later }
def DyadCutCardSaid : Prop := Claim7.holds Tryd.pinned (.plain (OpenSpec.ofChange dyadCutSpec)) dyadCutCard

/-- THE TIED CARD OF 'ulplaw04.DyadParts'. -/
def dyadPartsCard : Claim7 := { stood := { row := dyadPartsRow, standIns := [], harness := (true, "426d7dbd63a9857c056bf8d7259a4988c96b18a9836cdc7988d4d37a45196cd8"), looks := false }, kinds := [], alts := [], laidByText := true, laidKinds := [.data], laidTests := true, laidLooks := .later }
def DyadPartsCardSaid : Prop := Claim7.holds Tryd.pinned (.plain (OpenSpec.ofChange dyadPartsSpec)) dyadPartsCard

/-- THE TIED CARD OF 'ulplaw04.DyadOwn'. -/
def dyadOwnCard : Claim7 := { stood := { row := dyadOwnRow, standIns := [], harness := (true, "426d7dbd63a9857c056bf8d7259a4988c96b18a9836cdc7988d4d37a45196cd8"), looks := false }, kinds := [], alts := [], laidByText := true, laidKinds := [.data], laidTests := true, laidLooks := .later }
def DyadOwnCardSaid : Prop := Claim7.holds Tryd.pinned (.plain (OpenSpec.ofChange dyadOwnSpec)) dyadOwnCard

/-- THE SECOND FORM's CARD OF 'ulplaw04.DyadRing'. -/
def dyadRingUptoCard : Claim7 := { stood := { row := dyadRingUptoRow, standIns := [], harness := (true, "426d7dbd63a9857c056bf8d7259a4988c96b18a9836cdc7988d4d37a45196cd8"), looks := false }, kinds := [], alts := [], laidByText := true, laidKinds := [.data], laidTests := true, laidLooks := .later }
def DyadRingUptoCardSaid : Prop := Claim7.holds Tryd.pinned (.plain (OpenSpec.upto dyadRingSpec)) dyadRingUptoCard

/-- THE SECOND FORM's CARD OF 'ulplaw04.DyadShifts'. -/
def dyadShiftsUptoCard : Claim7 := { stood := { row := dyadShiftsUptoRow, standIns := [], harness := (true, "426d7dbd63a9857c056bf8d7259a4988c96b18a9836cdc7988d4d37a45196cd8"), looks := false }, kinds := [], alts := [], laidByText := true, laidKinds := [.data], laidTests := true, laidLooks := .later }
def DyadShiftsUptoCardSaid : Prop := Claim7.holds Tryd.pinned (.plain (OpenSpec.upto dyadShiftsSpec)) dyadShiftsUptoCard

/-- THE SECOND FORM's CARD OF 'ulplaw04.DyadExact'. -/
def dyadExactUptoCard : Claim7 := { stood := { row := dyadExactUptoRow, standIns := [], harness := (true, "426d7dbd63a9857c056bf8d7259a4988c96b18a9836cdc7988d4d37a45196cd8"), looks := false }, kinds := [], alts := [], laidByText := true, laidKinds := [.data], laidTests := true, laidLooks := .later }
def DyadExactUptoCardSaid : Prop := Claim7.holds Tryd.pinned (.plain (OpenSpec.upto dyadExactSpec)) dyadExactUptoCard

/-- THE SECOND FORM's CARD OF 'ulplaw04.DyadCut'. -/
def dyadCutUptoCard : Claim7 := { stood := { row := dyadCutUptoRow, standIns := [], harness := (true, "426d7dbd63a9857c056bf8d7259a4988c96b18a9836cdc7988d4d37a45196cd8"), looks := false }, kinds := [], alts := [], laidByText := true, laidKinds := [.data], laidTests := true, laidLooks := .later }
def DyadCutUptoCardSaid : Prop := Claim7.holds Tryd.pinned (.plain (OpenSpec.upto dyadCutSpec)) dyadCutUptoCard

/-- THE SECOND FORM's CARD OF 'ulplaw04.DyadParts'. -/
def dyadPartsUptoCard : Claim7 := { stood := { row := dyadPartsUptoRow, standIns := [], harness := (true, "426d7dbd63a9857c056bf8d7259a4988c96b18a9836cdc7988d4d37a45196cd8"), looks := false }, kinds := [], alts := [], laidByText := true, laidKinds := [.data], laidTests := true, laidLooks := .later }
def DyadPartsUptoCardSaid : Prop := Claim7.holds Tryd.pinned (.plain (OpenSpec.upto dyadPartsSpec)) dyadPartsUptoCard

/-- THE SECOND FORM's CARD OF 'ulplaw04.DyadOwn'. -/
def dyadOwnUptoCard : Claim7 := { stood := { row := dyadOwnUptoRow, standIns := [], harness := (true, "426d7dbd63a9857c056bf8d7259a4988c96b18a9836cdc7988d4d37a45196cd8"), looks := false }, kinds := [], alts := [], laidByText := true, laidKinds := [.data], laidTests := true, laidLooks := .later }
def DyadOwnUptoCardSaid : Prop := Claim7.holds Tryd.pinned (.plain (OpenSpec.upto dyadOwnSpec)) dyadOwnUptoCard
end Rows
end Go.Proofs.YtblcddcecmbkbaaDoor

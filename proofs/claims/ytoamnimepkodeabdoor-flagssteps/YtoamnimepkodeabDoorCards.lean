/-
  DERIVED. GIVEN WITH THE SEED: THE CARDS: each row of YtoamnimepkodeabDoorRows.lean that lists a variable, with what it lists TIED to the program's text (the seventh form; the later family's looks); each row that meets fmt, with fmt's text TOLD by the authors' own Lean function (tested against real Go, not proved from fmt's source: count such statements apart). THE CARD IS WHAT COUNTS. Prove the row's statement (the work); the ties are given (YtoamnimepkodeabDoorTie.lean); close each card by the builder's one call (the guide's Derived/Test/ToyasCard.lean, 'card_holds'). Laid BY PROGRAM, IN A SANDBOX (cutbox-door.mjs). By AI agents, Wed Nov 11 2026. No macro, syntax, notation, axiom, sorry.
-/
import Derived.Test.YtoamnimepkodeabDoorRows
import GoSem.ClaimSeven
namespace Go.Proofs.YtoamnimepkodeabDoor
namespace Rows

/-- THE TIED CARD OF 'ulplaw01.BitsSteps'. -/
def bitsStepsCard : Claim7 := { stood := { row := bitsStepsRow, standIns := [], harness := (true, "698c5a88be66ab32f86f5dce4b15634cd3b03394fc686c577c8ecd919228eaa6"), looks := false }, kinds := [], alts := [], laidByText := true, laidKinds := [.data], laidTests := true, laidLooks := .later }
def BitsStepsCardSaid : Prop := Claim7.holds Tryd.pinned (.plain (OpenSpec.ofChange bitsStepsSpec)) bitsStepsCard

/-- THE TIED CARD OF 'ulplaw01.BitsWhole'. -/
def bitsWholeCard : Claim7 := { stood := { row := bitsWholeRow, standIns := [], harness := (true, "698c5a88be66ab32f86f5dce4b15634cd3b03394fc686c577c8ecd919228eaa6"), looks := false }, kinds := [], alts := [], laidByText := true, laidKinds := [.data], laidTests := true, laidLooks := .later }
def BitsWholeCardSaid : Prop := Claim7.holds Tryd.pinned (.plain (OpenSpec.ofChange bitsWholeSpec)) bitsWholeCard

/-- THE TIED CARD OF 'ulplaw02.FlagsSets'. -/
def flagsSetsCard : Claim7 := { stood := { row := flagsSetsRow, standIns := [], harness := (true, "698c5a88be66ab32f86f5dce4b15634cd3b03394fc686c577c8ecd919228eaa6"), looks := false }, kinds := [], alts := [], laidByText := true, laidKinds := [.data], laidTests := true, laidLooks := .later }
def FlagsSetsCardSaid : Prop := Claim7.holds Tryd.pinned (.plain (OpenSpec.ofChange flagsSetsSpec)) flagsSetsCard

/-- THE TIED CARD OF 'ulplaw02.FlagsTexts'. -/
def flagsTextsCard : Claim7 := { stood := { row := flagsTextsRow, standIns := [], harness := (true, "698c5a88be66ab32f86f5dce4b15634cd3b03394fc686c577c8ecd919228eaa6"), looks := false }, kinds := [], alts := [], laidByText := true, laidKinds := [.data], laidTests := true, laidLooks := .later }
def FlagsTextsCardSaid : Prop := Claim7.holds Tryd.pinned (.plain (OpenSpec.ofChange flagsTextsSpec)) flagsTextsCard

/-- THE TIED CARD OF 'ulplaw02.FlagsSteps'. -/
def flagsStepsCard : Claim7 := { stood := { row := flagsStepsRow, standIns := [], harness := (true, "698c5a88be66ab32f86f5dce4b15634cd3b03394fc686c577c8ecd919228eaa6"), looks := false }, kinds := [], alts := [], laidByText := true, laidKinds := [.data], laidTests := true, laidLooks := .later }
def FlagsStepsCardSaid : Prop := Claim7.holds Tryd.pinned (.plain (OpenSpec.ofChange flagsStepsSpec)) flagsStepsCard

/-- THE TIED CARD OF 'ulplaw02.FlagsNil'. -/
def flagsNilCard : Claim7 := { stood := { row := flagsNilRow, standIns := [], harness := (true, "698c5a88be66ab32f86f5dce4b15634cd3b03394fc686c577c8ecd919228eaa6"), looks := false }, kinds := [], alts := [], laidByText := true, laidKinds := [.data], laidTests := true, laidLooks := .later }
def FlagsNilCardSaid : Prop := Claim7.holds Tryd.pinned (.plain (OpenSpec.ofChange flagsNilSpec)) flagsNilCard

/-- THE SECOND FORM's CARD OF 'ulplaw01.BitsSteps'. -/
def bitsStepsUptoCard : Claim7 := { stood := { row := bitsStepsUptoRow, standIns := [], harness := (true, "698c5a88be66ab32f86f5dce4b15634cd3b03394fc686c577c8ecd919228eaa6"), looks := false }, kinds := [], alts := [], laidByText := true, laidKinds := [.data], laidTests := true, laidLooks := .later }
def BitsStepsUptoCardSaid : Prop := Claim7.holds Tryd.pinned (.plain (OpenSpec.upto bitsStepsSpec)) bitsStepsUptoCard

/-- THE SECOND FORM's CARD OF 'ulplaw01.BitsWhole'. -/
def bitsWholeUptoCard : Claim7 := { stood := { row := bitsWholeUptoRow, standIns := [], harness := (true, "698c5a88be66ab32f86f5dce4b15634cd3b03394fc686c577c8ecd919228eaa6"), looks := false }, kinds := [], alts := [], laidByText := true, laidKinds := [.data], laidTests := true, laidLooks := .later }
def BitsWholeUptoCardSaid : Prop := Claim7.holds Tryd.pinned (.plain (OpenSpec.upto bitsWholeSpec)) bitsWholeUptoCard

/-- THE SECOND FORM's CARD OF 'ulplaw02.FlagsSets'. -/
def flagsSetsUptoCard : Claim7 := { stood := { row := flagsSetsUptoRow, standIns := [], harness := (true, "698c5a88be66ab32f86f5dce4b15634cd3b03394fc686c577c8ecd919228eaa6"), looks := false }, kinds := [], alts := [], laidByText := true, laidKinds := [.data], laidTests := true, laidLooks := .later }
def FlagsSetsUptoCardSaid : Prop := Claim7.holds Tryd.pinned (.plain (OpenSpec.upto flagsSetsSpec)) flagsSetsUptoCard

/-- THE SECOND FORM's CARD OF 'ulplaw02.FlagsTexts'. -/
def flagsTextsUptoCard : Claim7 := { stood := { row := flagsTextsUptoRow, standIns := [], harness := (true, "698c5a88be66ab32f86f5dce4b15634cd3b03394fc686c577c8ecd919228eaa6"), looks := false }, kinds := [], alts := [], laidByText := true, laidKinds := [.data], laidTests := true, laidLooks := .later }
def FlagsTextsUptoCardSaid : Prop := Claim7.holds Tryd.pinned (.plain (OpenSpec.upto flagsTextsSpec)) flagsTextsUptoCard

/-- THE SECOND FORM's CARD OF 'ulplaw02.FlagsSteps'. -/
def flagsStepsUptoCard : Claim7 := { stood := { row := flagsStepsUptoRow, standIns := [], harness := (true, "698c5a88be66ab32f86f5dce4b15634cd3b03394fc686c577c8ecd919228eaa6"), looks := false }, kinds := [], alts := [], laidByText := true, laidKinds := [.data], laidTests := true, laidLooks := .later }
def FlagsStepsUptoCardSaid : Prop := Claim7.holds Tryd.pinned (.plain (OpenSpec.upto flagsStepsSpec)) flagsStepsUptoCard

/-- THE SECOND FORM's CARD OF 'ulplaw02.FlagsNil'. -/
def flagsNilUptoCard : Claim7 := { stood := { row := flagsNilUptoRow, standIns := [], harness := (true, "698c5a88be66ab32f86f5dce4b15634cd3b03394fc686c577c8ecd919228eaa6"), looks := false }, kinds := [], alts := [], laidByText := true, laidKinds := [.data], laidTests := true, laidLooks := .later }
def FlagsNilUptoCardSaid : Prop := Claim7.holds Tryd.pinned (.plain (OpenSpec.upto flagsNilSpec)) flagsNilUptoCard
end Rows
end Go.Proofs.YtoamnimepkodeabDoor

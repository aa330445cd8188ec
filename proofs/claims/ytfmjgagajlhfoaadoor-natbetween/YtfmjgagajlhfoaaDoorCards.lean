/-
  DERIVED. GIVEN WITH THE SEED: THE CARDS: each row of YtfmjgagajlhfoaaDoorRows.lean that lists a variable, with what it lists TIED to the program's text (the seventh form; the later family's looks); each row that meets fmt, with fmt's text TOLD by the authors' own Lean function (tested against real Go, not proved from fmt's source: count such statements apart). THE CARD IS WHAT COUNTS. Prove the row's statement (the work); the ties are given (YtfmjgagajlhfoaaDoorTie.lean); close each card by the builder's one call (the guide's Derived/Test/ToyasCard.lean, 'card_holds'). Laid BY PROGRAM, IN A SANDBOX (cutbox-door.mjs). By AI agents, Wed Nov 11 2026. No macro, syntax, notation, axiom, sorry.
-/
import Derived.Test.YtfmjgagajlhfoaaDoorRows
import GoSem.ClaimSeven
namespace Go.Proofs.YtfmjgagajlhfoaaDoor
namespace Rows

/-- THE TIED CARD OF 'ulplaw03.NatTexts'. -/
def natTextsCard : Claim7 := { stood := { row := natTextsRow, standIns := [], harness := (true, "c4dd61c945cd02c0c5daa0a0a6415b58c56abeabb6a002267ac79fe06e75e546"), looks := false }, kinds := [], alts := [], laidByText := true, laidKinds := [.data, .data, .data], laidTests := true, laidLooks := .later }
def NatTextsCardSaid : Prop := Claim7.holds Tryd.pinned (.plain (OpenSpec.ofChange natTextsSpec)) natTextsCard

/-- THE TIED CARD OF 'ulplaw03.NatBetween'. -/
def natBetweenCard : Claim7 := { stood := { row := natBetweenRow, standIns := [], harness := (true, "c4dd61c945cd02c0c5daa0a0a6415b58c56abeabb6a002267ac79fe06e75e546"), looks := false }, kinds := [], alts := [], laidByText := true, laidKinds := [.data, .data, .data], laidTests := true, laidLooks := .later }
def NatBetweenCardSaid : Prop := Claim7.holds Tryd.pinned (.plain (OpenSpec.ofChange natBetweenSpec)) natBetweenCard

/-- THE SECOND FORM's CARD OF 'ulplaw03.NatTexts'. -/
def natTextsUptoCard : Claim7 := { stood := { row := natTextsUptoRow, standIns := [], harness := (true, "c4dd61c945cd02c0c5daa0a0a6415b58c56abeabb6a002267ac79fe06e75e546"), looks := false }, kinds := [], alts := [], laidByText := true, laidKinds := [.data, .data, .data], laidTests := true, laidLooks := .later }
def NatTextsUptoCardSaid : Prop := Claim7.holds Tryd.pinned (.plain (OpenSpec.upto natTextsSpec)) natTextsUptoCard

/-- THE SECOND FORM's CARD OF 'ulplaw03.NatBetween'. -/
def natBetweenUptoCard : Claim7 := { stood := { row := natBetweenUptoRow, standIns := [], harness := (true, "c4dd61c945cd02c0c5daa0a0a6415b58c56abeabb6a002267ac79fe06e75e546"), looks := false }, kinds := [], alts := [], laidByText := true, laidKinds := [.data, .data, .data], laidTests := true, laidLooks := .later }
def NatBetweenUptoCardSaid : Prop := Claim7.holds Tryd.pinned (.plain (OpenSpec.upto natBetweenSpec)) natBetweenUptoCard
end Rows
end Go.Proofs.YtfmjgagajlhfoaaDoor

/-
  DERIVED. GIVEN WITH THE SEED: THE CARDS: each row of YtkkldnnndlpblaaGreatDoorRows.lean that lists a variable, with what it lists TIED to the program's text (the seventh form; the later family's looks); each row that meets fmt, with fmt's text TOLD by the authors' own Lean function (tested against real Go, not proved from fmt's source: count such statements apart). THE CARD IS WHAT COUNTS. Prove the row's statement (the work); the ties are given (YtkkldnnndlpblaaGreatDoorTie.lean); close each card by the builder's one call (the guide's Derived/Test/ToyasCard.lean, 'card_holds'). Laid BY PROGRAM, IN A SANDBOX (cutbox-door.mjs). By AI agents, Wed Nov 11 2026. No macro, syntax, notation, axiom, sorry.
-/
import Derived.Test.YtkkldnnndlpblaaGreatDoorRows
import GoSem.ClaimSeven
namespace Go.Proofs.YtkkldnnndlpblaaGreatDoor
namespace Rows

/-- THE TIED CARD OF 'ulplaw09.ConstsEnclose'. -/
def constsEncloseCard : Claim7 := { stood := { row := constsEncloseRow, standIns := [], harness := (true, "5828c247b9e634a984735a14acba651ef25fd7454c94b22176b86818068226ad"), looks := false }, kinds := [], alts := [], laidByText := true, laidKinds := [.data, .data, .data, .data], laidTests := true, laidLooks := .later }
def ConstsEncloseCardSaid : Prop := Claim7.holds Tryz.pinned (.plain (OpenSpec.ofChange constsEncloseSpec)) constsEncloseCard

/-- THE TIED CARD OF 'ulplaw09.ConstsTold'. -/
def constsToldCard : Claim7 := { stood := { row := constsToldRow, standIns := [], harness := (true, "5828c247b9e634a984735a14acba651ef25fd7454c94b22176b86818068226ad"), looks := false }, kinds := [], alts := [], laidByText := true, laidKinds := [.data, .data, .data, .data], laidTests := true, laidLooks := .later }
def ConstsToldCardSaid : Prop := Claim7.holds Tryz.pinned (.plain (OpenSpec.ofChange constsToldSpec)) constsToldCard

/-- THE TIED CARD OF 'ulplaw09.ConstsMeet'. -/
def constsMeetCard : Claim7 := { stood := { row := constsMeetRow, standIns := [], harness := (true, "5828c247b9e634a984735a14acba651ef25fd7454c94b22176b86818068226ad"), looks := false }, kinds := [], alts := [], laidByText := true, laidKinds := [.data, .data, .data, .data], laidTests := true, laidLooks := .later }
def ConstsMeetCardSaid : Prop := Claim7.holds Tryz.pinned (.plain (OpenSpec.ofChange constsMeetSpec)) constsMeetCard

/-- THE TIED CARD OF 'ulplaw09.ConstsInverse'. -/
def constsInverseCard : Claim7 := { stood := { row := constsInverseRow, standIns := [], harness := (true, "5828c247b9e634a984735a14acba651ef25fd7454c94b22176b86818068226ad"), looks := false }, kinds := [], alts := [], laidByText := true, laidKinds := [.data, .data, .data, .data], laidTests := true, laidLooks := .later }
def ConstsInverseCardSaid : Prop := Claim7.holds Tryz.pinned (.plain (OpenSpec.ofChange constsInverseSpec)) constsInverseCard

/-- THE TIED CARD OF 'ulplaw09.ConstsFronts'. -/
def constsFrontsCard : Claim7 := { stood := { row := constsFrontsRow, standIns := [], harness := (true, "5828c247b9e634a984735a14acba651ef25fd7454c94b22176b86818068226ad"), looks := false }, kinds := [], alts := [], laidByText := true, laidKinds := [.data, .data, .data, .data], laidTests := true, laidLooks := .later }
def ConstsFrontsCardSaid : Prop := Claim7.holds Tryz.pinned (.plain (OpenSpec.ofChange constsFrontsSpec)) constsFrontsCard

/-- THE TIED CARD OF 'ulplaw09.ConstsOwn'. -/
def constsOwnCard : Claim7 := { stood := { row := constsOwnRow, standIns := [], harness := (true, "5828c247b9e634a984735a14acba651ef25fd7454c94b22176b86818068226ad"), looks := false }, kinds := [], alts := [], laidByText := true, laidKinds := [.data, .data, .data, .data], laidTests := true, laidLooks := .later }
def ConstsOwnCardSaid : Prop := Claim7.holds Tryz.pinned (.plain (OpenSpec.ofChange constsOwnSpec)) constsOwnCard

/-- THE SECOND FORM's CARD OF 'ulplaw09.ConstsEnclose'. -/
def constsEncloseUptoCard : Claim7 := { stood := { row := constsEncloseUptoRow, standIns := [], harness := (true, "5828c247b9e634a984735a14acba651ef25fd7454c94b22176b86818068226ad"), looks := false }, kinds := [], alts := [], laidByText := true, laidKinds := [.data, .data, .data, .data], laidTests := true, laidLooks := .later }
def ConstsEncloseUptoCardSaid : Prop := Claim7.holds Tryz.pinned (.plain (OpenSpec.upto constsEncloseSpec)) constsEncloseUptoCard

/-- THE SECOND FORM's CARD OF 'ulplaw09.ConstsTold'. -/
def constsToldUptoCard : Claim7 := { stood := { row := constsToldUptoRow, standIns := [], harness := (true, "5828c247b9e634a984735a14acba651ef25fd7454c94b22176b86818068226ad"), looks := false }, kinds := [], alts := [], laidByText := true, laidKinds := [.data, .data, .data, .data], laidTests := true, laidLooks := .later }
def ConstsToldUptoCardSaid : Prop := Claim7.holds Tryz.pinned (.plain (OpenSpec.upto constsToldSpec)) constsToldUptoCard

/-- THE SECOND FORM's CARD OF 'ulplaw09.ConstsMeet'. -/
def constsMeetUptoCard : Claim7 := { stood := { row := constsMeetUptoRow, standIns := [], harness := (true, "5828c247b9e634a984735a14acba651ef25fd7454c94b22176b86818068226ad"), looks := false }, kinds := [], alts := [], laidByText := true, laidKinds := [.data, .data, .data, .data], laidTests := true, laidLooks := .later }
def ConstsMeetUptoCardSaid : Prop := Claim7.holds Tryz.pinned (.plain (OpenSpec.upto constsMeetSpec)) constsMeetUptoCard

/-- THE SECOND FORM's CARD OF 'ulplaw09.ConstsInverse'. -/
def constsInverseUptoCard : Claim7 := { stood := { row := constsInverseUptoRow, standIns := [], harness := (true, "5828c247b9e634a984735a14acba651ef25fd7454c94b22176b86818068226ad"), looks := false }, kinds := [], alts := [], laidByText := true, laidKinds := [.data, .data, .data, .data], laidTests := true, laidLooks := .later }
def ConstsInverseUptoCardSaid : Prop := Claim7.holds Tryz.pinned (.plain (OpenSpec.upto constsInverseSpec)) constsInverseUptoCard

/-- THE SECOND FORM's CARD OF 'ulplaw09.ConstsFronts'. -/
def constsFrontsUptoCard : Claim7 := { stood := { row := constsFrontsUptoRow, standIns := [], harness := (true, "5828c247b9e634a984735a14acba651ef25fd7454c94b22176b86818068226ad"), looks := false }, kinds := [], alts := [], laidByText := true, laidKinds := [.data, .data, .data, .data], laidTests := true, laidLooks := .later }
def ConstsFrontsUptoCardSaid : Prop := Claim7.holds Tryz.pinned (.plain (OpenSpec.upto constsFrontsSpec)) constsFrontsUptoCard

/-- THE SECOND FORM's CARD OF 'ulplaw09.ConstsOwn'. -/
def constsOwnUptoCard : Claim7 := { stood := { row := constsOwnUptoRow, standIns := [], harness := (true, "5828c247b9e634a984735a14acba651ef25fd7454c94b22176b86818068226ad"), looks := false }, kinds := [], alts := [], laidByText := true, laidKinds := [.data, .data, .data, .data], laidTests := true, laidLooks := .later }
def ConstsOwnUptoCardSaid : Prop := Claim7.holds Tryz.pinned (.plain (OpenSpec.upto constsOwnSpec)) constsOwnUptoCard
end Rows
end Go.Proofs.YtkkldnnndlpblaaGreatDoor

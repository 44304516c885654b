/-
  DERIVED. GIVEN WITH THE SEED: THE CARDS: each row of YtbindadjepfkcaaGreatDoorRows.lean that lists a variable, with what it lists TIED to the program's text (the seventh form; the later family's looks); each row that meets fmt, with fmt's text TOLD by the authors' own Lean function (tested against real Go, not proved from fmt's source: count such statements apart). THE CARD IS WHAT COUNTS. Prove the row's statement (the work); the ties are given (YtbindadjepfkcaaGreatDoorTie.lean); close each card by the builder's one call (the guide's Derived/Test/ToyasCard.lean, 'card_holds'). Laid BY PROGRAM, IN A SANDBOX (cutbox-door.mjs). By AI agents, Wed Nov 11 2026. No macro, syntax, notation, axiom, sorry.
-/
import Derived.Test.YtbindadjepfkcaaGreatDoorRows
import GoSem.ClaimSeven
namespace Go.Proofs.YtbindadjepfkcaaGreatDoor
namespace Rows

/-- THE TIED CARD OF 'tableaulaw04.ExtOrders'. -/
def extOrdersCard : Claim7 := { stood := { row := extOrdersRow, standIns := [], harness := (true, "53121ca69f57696b4a03070ac5a988db4b31e77bd738382d4702d6f733193405"), looks := false }, kinds := [], alts := [], laidByText := true, laidKinds := [.data, .data, .data, .data, .pinned], laidTests := true, laidLooks := .later }
def ExtOrdersCardSaid : Prop := Claim7.holds Tryz.pinned (.plain (OpenSpec.ofChange extOrdersSpec)) extOrdersCard

/-- THE TIED CARD OF 'tableaulaw04.ExtMoves'. -/
def extMovesCard : Claim7 := { stood := { row := extMovesRow, standIns := [], harness := (true, "53121ca69f57696b4a03070ac5a988db4b31e77bd738382d4702d6f733193405"), looks := false }, kinds := [], alts := [], laidByText := true, laidKinds := [.data, .data, .data, .data, .pinned], laidTests := true, laidLooks := .later }
def ExtMovesCardSaid : Prop := Claim7.holds Tryz.pinned (.plain (OpenSpec.ofChange extMovesSpec)) extMovesCard

/-- THE TIED CARD OF 'tableaulaw04.ExtTexts'. -/
def extTextsCard : Claim7 := { stood := { row := extTextsRow, standIns := [], harness := (true, "53121ca69f57696b4a03070ac5a988db4b31e77bd738382d4702d6f733193405"), looks := false }, kinds := [], alts := [], laidByText := true, laidKinds := [.data, .data, .data, .data, .pinned], laidTests := true, laidLooks := .later }
def ExtTextsCardSaid : Prop := Claim7.holds Tryz.pinned (.plain (OpenSpec.ofChange extTextsSpec)) extTextsCard

/-- THE TIED CARD OF 'tableaulaw04.ExtTurns'. -/
def extTurnsCard : Claim7 := { stood := { row := extTurnsRow, standIns := [], harness := (true, "53121ca69f57696b4a03070ac5a988db4b31e77bd738382d4702d6f733193405"), looks := false }, kinds := [], alts := [], laidByText := true, laidKinds := [.data, .data, .data, .data, .pinned], laidTests := true, laidLooks := .later }
def ExtTurnsCardSaid : Prop := Claim7.holds Tryz.pinned (.plain (OpenSpec.ofChange extTurnsSpec)) extTurnsCard

/-- THE TIED CARD OF 'tableaulaw04.ExtKeeps'. -/
def extKeepsCard : Claim7 := { stood := { row := extKeepsRow, standIns := [], harness := (true, "53121ca69f57696b4a03070ac5a988db4b31e77bd738382d4702d6f733193405"), looks := false }, kinds := [], alts := [], laidByText := true, laidKinds := [.data, .data, .data, .data, .pinned], laidTests := true, laidLooks := .later }
def ExtKeepsCardSaid : Prop := Claim7.holds Tryz.pinned (.plain (OpenSpec.ofChange extKeepsSpec)) extKeepsCard

/-- THE SECOND FORM's CARD OF 'tableaulaw04.ExtOrders'. -/
def extOrdersUptoCard : Claim7 := { stood := { row := extOrdersUptoRow, standIns := [], harness := (true, "53121ca69f57696b4a03070ac5a988db4b31e77bd738382d4702d6f733193405"), looks := false }, kinds := [], alts := [], laidByText := true, laidKinds := [.data, .data, .data, .data, .pinned], laidTests := true, laidLooks := .later }
def ExtOrdersUptoCardSaid : Prop := Claim7.holds Tryz.pinned (.plain (OpenSpec.upto extOrdersSpec)) extOrdersUptoCard

/-- THE SECOND FORM's CARD OF 'tableaulaw04.ExtMoves'. -/
def extMovesUptoCard : Claim7 := { stood := { row := extMovesUptoRow, standIns := [], harness := (true, "53121ca69f57696b4a03070ac5a988db4b31e77bd738382d4702d6f733193405"), looks := false }, kinds := [], alts := [], laidByText := true, laidKinds := [.data, .data, .data, .data, .pinned], laidTests := true, laidLooks := .later }
def ExtMovesUptoCardSaid : Prop := Claim7.holds Tryz.pinned (.plain (OpenSpec.upto extMovesSpec)) extMovesUptoCard

/-- THE SECOND FORM's CARD OF 'tableaulaw04.ExtTexts'. -/
def extTextsUptoCard : Claim7 := { stood := { row := extTextsUptoRow, standIns := [], harness := (true, "53121ca69f57696b4a03070ac5a988db4b31e77bd738382d4702d6f733193405"), looks := false }, kinds := [], alts := [], laidByText := true, laidKinds := [.data, .data, .data, .data, .pinned], laidTests := true, laidLooks := .later }
def ExtTextsUptoCardSaid : Prop := Claim7.holds Tryz.pinned (.plain (OpenSpec.upto extTextsSpec)) extTextsUptoCard

/-- THE SECOND FORM's CARD OF 'tableaulaw04.ExtTurns'. -/
def extTurnsUptoCard : Claim7 := { stood := { row := extTurnsUptoRow, standIns := [], harness := (true, "53121ca69f57696b4a03070ac5a988db4b31e77bd738382d4702d6f733193405"), looks := false }, kinds := [], alts := [], laidByText := true, laidKinds := [.data, .data, .data, .data, .pinned], laidTests := true, laidLooks := .later }
def ExtTurnsUptoCardSaid : Prop := Claim7.holds Tryz.pinned (.plain (OpenSpec.upto extTurnsSpec)) extTurnsUptoCard

/-- THE SECOND FORM's CARD OF 'tableaulaw04.ExtKeeps'. -/
def extKeepsUptoCard : Claim7 := { stood := { row := extKeepsUptoRow, standIns := [], harness := (true, "53121ca69f57696b4a03070ac5a988db4b31e77bd738382d4702d6f733193405"), looks := false }, kinds := [], alts := [], laidByText := true, laidKinds := [.data, .data, .data, .data, .pinned], laidTests := true, laidLooks := .later }
def ExtKeepsUptoCardSaid : Prop := Claim7.holds Tryz.pinned (.plain (OpenSpec.upto extKeepsSpec)) extKeepsUptoCard
end Rows
end Go.Proofs.YtbindadjepfkcaaGreatDoor

/-
  DERIVED. GIVEN WITH THE SEED: THE CARDS: each row of YtgklbedaebiglaaGreatDoorRows.lean that lists a variable, with what it lists TIED to the program's text (the seventh form; the later family's looks); each row that meets fmt, with fmt's text TOLD by the authors' own Lean function (tested against real Go, not proved from fmt's source: count such statements apart). THE CARD IS WHAT COUNTS. Prove the row's statement (the work); the ties are given (YtgklbedaebiglaaGreatDoorTie.lean); close each card by the builder's one call (the guide's Derived/Test/ToyasCard.lean, 'card_holds'). Laid BY PROGRAM, IN A SANDBOX (cutbox-door.mjs). By AI agents, Wed Nov 11 2026. No macro, syntax, notation, axiom, sorry.
-/
import Derived.Test.YtgklbedaebiglaaGreatDoorRows
import GoSem.ClaimSeven
namespace Go.Proofs.YtgklbedaebiglaaGreatDoor
namespace Rows

/-- THE TIED CARD OF 'tableaulaw02.WholeRest'. -/
def wholeRestCard : Claim7 := { stood := { row := wholeRestRow, standIns := [], harness := (true, "9540c142af3705ef2629f6a6f415fefe926e58089dada4e44772073da3af7ea7"), looks := false }, kinds := [], alts := [], laidByText := true, laidKinds := [.data, .data, .data, .data, .pinned], laidTests := true, laidLooks := .later }
def WholeRestCardSaid : Prop := Claim7.holds Tryz.pinned (.plain (OpenSpec.ofChange wholeRestSpec)) wholeRestCard

/-- THE TIED CARD OF 'tableaulaw02.WholeKeeps'. -/
def wholeKeepsCard : Claim7 := { stood := { row := wholeKeepsRow, standIns := [], harness := (true, "9540c142af3705ef2629f6a6f415fefe926e58089dada4e44772073da3af7ea7"), looks := false }, kinds := [], alts := [], laidByText := true, laidKinds := [.data, .data, .data, .data, .pinned], laidTests := true, laidLooks := .later }
def WholeKeepsCardSaid : Prop := Claim7.holds Tryz.pinned (.plain (OpenSpec.ofChange wholeKeepsSpec)) wholeKeepsCard

/-- THE TIED CARD OF 'tableaulaw03.RatField'. -/
def ratFieldCard : Claim7 := { stood := { row := ratFieldRow, standIns := [], harness := (true, "9540c142af3705ef2629f6a6f415fefe926e58089dada4e44772073da3af7ea7"), looks := false }, kinds := [], alts := [], laidByText := true, laidKinds := [.data, .data, .data, .data, .pinned], laidTests := true, laidLooks := .later }
def RatFieldCardSaid : Prop := Claim7.holds Tryz.pinned (.plain (OpenSpec.ofChange ratFieldSpec)) ratFieldCard

/-- THE TIED CARD OF 'tableaulaw03.RatLine'. -/
def ratLineCard : Claim7 := { stood := { row := ratLineRow, standIns := [], harness := (true, "9540c142af3705ef2629f6a6f415fefe926e58089dada4e44772073da3af7ea7"), looks := false }, kinds := [], alts := [], laidByText := true, laidKinds := [.data, .data, .data, .data, .pinned], laidTests := true, laidLooks := .later }
def RatLineCardSaid : Prop := Claim7.holds Tryz.pinned (.plain (OpenSpec.ofChange ratLineSpec)) ratLineCard

/-- THE TIED CARD OF 'tableaulaw02.WholeSums'. -/
def wholeSumsCard : Claim7 := { stood := { row := wholeSumsRow, standIns := [], harness := (true, "9540c142af3705ef2629f6a6f415fefe926e58089dada4e44772073da3af7ea7"), looks := false }, kinds := [], alts := [], laidByText := true, laidKinds := [.data, .data, .data, .data, .pinned], laidTests := true, laidLooks := .later }
def WholeSumsCardSaid : Prop := Claim7.holds Tryz.pinned (.plain (OpenSpec.ofChange wholeSumsSpec)) wholeSumsCard

/-- THE TIED CARD OF 'tableaulaw02.WholeDivides'. -/
def wholeDividesCard : Claim7 := { stood := { row := wholeDividesRow, standIns := [], harness := (true, "9540c142af3705ef2629f6a6f415fefe926e58089dada4e44772073da3af7ea7"), looks := false }, kinds := [], alts := [], laidByText := true, laidKinds := [.data, .data, .data, .data, .pinned], laidTests := true, laidLooks := .later }
def WholeDividesCardSaid : Prop := Claim7.holds Tryz.pinned (.plain (OpenSpec.ofChange wholeDividesSpec)) wholeDividesCard

/-- THE SECOND FORM's CARD OF 'tableaulaw02.WholeRest'. -/
def wholeRestUptoCard : Claim7 := { stood := { row := wholeRestUptoRow, standIns := [], harness := (true, "9540c142af3705ef2629f6a6f415fefe926e58089dada4e44772073da3af7ea7"), looks := false }, kinds := [], alts := [], laidByText := true, laidKinds := [.data, .data, .data, .data, .pinned], laidTests := true, laidLooks := .later }
def WholeRestUptoCardSaid : Prop := Claim7.holds Tryz.pinned (.plain (OpenSpec.upto wholeRestSpec)) wholeRestUptoCard

/-- THE SECOND FORM's CARD OF 'tableaulaw02.WholeKeeps'. -/
def wholeKeepsUptoCard : Claim7 := { stood := { row := wholeKeepsUptoRow, standIns := [], harness := (true, "9540c142af3705ef2629f6a6f415fefe926e58089dada4e44772073da3af7ea7"), looks := false }, kinds := [], alts := [], laidByText := true, laidKinds := [.data, .data, .data, .data, .pinned], laidTests := true, laidLooks := .later }
def WholeKeepsUptoCardSaid : Prop := Claim7.holds Tryz.pinned (.plain (OpenSpec.upto wholeKeepsSpec)) wholeKeepsUptoCard

/-- THE SECOND FORM's CARD OF 'tableaulaw03.RatField'. -/
def ratFieldUptoCard : Claim7 := { stood := { row := ratFieldUptoRow, standIns := [], harness := (true, "9540c142af3705ef2629f6a6f415fefe926e58089dada4e44772073da3af7ea7"), looks := false }, kinds := [], alts := [], laidByText := true, laidKinds := [.data, .data, .data, .data, .pinned], laidTests := true, laidLooks := .later }
def RatFieldUptoCardSaid : Prop := Claim7.holds Tryz.pinned (.plain (OpenSpec.upto ratFieldSpec)) ratFieldUptoCard

/-- THE SECOND FORM's CARD OF 'tableaulaw03.RatLine'. -/
def ratLineUptoCard : Claim7 := { stood := { row := ratLineUptoRow, standIns := [], harness := (true, "9540c142af3705ef2629f6a6f415fefe926e58089dada4e44772073da3af7ea7"), looks := false }, kinds := [], alts := [], laidByText := true, laidKinds := [.data, .data, .data, .data, .pinned], laidTests := true, laidLooks := .later }
def RatLineUptoCardSaid : Prop := Claim7.holds Tryz.pinned (.plain (OpenSpec.upto ratLineSpec)) ratLineUptoCard

/-- THE SECOND FORM's CARD OF 'tableaulaw02.WholeSums'. -/
def wholeSumsUptoCard : Claim7 := { stood := { row := wholeSumsUptoRow, standIns := [], harness := (true, "9540c142af3705ef2629f6a6f415fefe926e58089dada4e44772073da3af7ea7"), looks := false }, kinds := [], alts := [], laidByText := true, laidKinds := [.data, .data, .data, .data, .pinned], laidTests := true, laidLooks := .later }
def WholeSumsUptoCardSaid : Prop := Claim7.holds Tryz.pinned (.plain (OpenSpec.upto wholeSumsSpec)) wholeSumsUptoCard

/-- THE SECOND FORM's CARD OF 'tableaulaw02.WholeDivides'. -/
def wholeDividesUptoCard : Claim7 := { stood := { row := wholeDividesUptoRow, standIns := [], harness := (true, "9540c142af3705ef2629f6a6f415fefe926e58089dada4e44772073da3af7ea7"), looks := false }, kinds := [], alts := [], laidByText := true, laidKinds := [.data, .data, .data, .data, .pinned], laidTests := true, laidLooks := .later }
def WholeDividesUptoCardSaid : Prop := Claim7.holds Tryz.pinned (.plain (OpenSpec.upto wholeDividesSpec)) wholeDividesUptoCard
end Rows
end Go.Proofs.YtgklbedaebiglaaGreatDoor

/-
  DERIVED. GIVEN WITH THE SEED: THE CARDS: each row of YtclopblgdiahiaaGreatDoorRows.lean that lists a variable, with what it lists TIED to the program's text (the seventh form; the later family's looks); each row that meets fmt, with fmt's text TOLD by the authors' own Lean function (tested against real Go, not proved from fmt's source: count such statements apart). THE CARD IS WHAT COUNTS. Prove the row's statement (the work); the ties are given (YtclopblgdiahiaaGreatDoorTie.lean); close each card by the builder's one call (the guide's Derived/Test/ToyasCard.lean, 'card_holds'). Laid BY PROGRAM, IN A SANDBOX (cutbox-door.mjs). By AI agents, Wed Nov 11 2026. No macro, syntax, notation, axiom, sorry.
-/
import Derived.Test.YtclopblgdiahiaaGreatDoorRows
import GoSem.ClaimSeven
namespace Go.Proofs.YtclopblgdiahiaaGreatDoor
namespace Rows

/-- THE TIED CARD OF 'tableaulaw02.WholeKeeps'. -/
def wholeKeepsCard : Claim7 := { stood := { row := wholeKeepsRow, standIns := [], harness := (true, "19dd318c77a71ad6cc32940279e1d94187e115360afcd60c5fb6685dfd16bab5"), looks := false }, kinds := [], alts := [], laidByText := true, laidKinds := [.data, .data, .data, .data, .pinned], laidTests := true, laidLooks := .later }
def WholeKeepsCardSaid : Prop := Claim7.holds Tryz.pinned (.plain (OpenSpec.ofChange wholeKeepsSpec)) wholeKeepsCard

/-- THE TIED CARD OF 'tableaulaw03.RatKeeps'. -/
def ratKeepsCard : Claim7 := { stood := { row := ratKeepsRow, standIns := [], harness := (true, "19dd318c77a71ad6cc32940279e1d94187e115360afcd60c5fb6685dfd16bab5"), looks := false }, kinds := [], alts := [], laidByText := true, laidKinds := [.data, .data, .data, .data, .pinned], laidTests := true, laidLooks := .later }
def RatKeepsCardSaid : Prop := Claim7.holds Tryz.pinned (.plain (OpenSpec.ofChange ratKeepsSpec)) ratKeepsCard

/-- THE TIED CARD OF 'tableaulaw04.ExtTurns'. -/
def extTurnsCard : Claim7 := { stood := { row := extTurnsRow, standIns := [], harness := (true, "19dd318c77a71ad6cc32940279e1d94187e115360afcd60c5fb6685dfd16bab5"), looks := false }, kinds := [], alts := [], laidByText := true, laidKinds := [.data, .data, .data, .data, .pinned], laidTests := true, laidLooks := .later }
def ExtTurnsCardSaid : Prop := Claim7.holds Tryz.pinned (.plain (OpenSpec.ofChange extTurnsSpec)) extTurnsCard

/-- THE TIED CARD OF 'tableaulaw04.ExtKeeps'. -/
def extKeepsCard : Claim7 := { stood := { row := extKeepsRow, standIns := [], harness := (true, "19dd318c77a71ad6cc32940279e1d94187e115360afcd60c5fb6685dfd16bab5"), looks := false }, kinds := [], alts := [], laidByText := true, laidKinds := [.data, .data, .data, .data, .pinned], laidTests := true, laidLooks := .later }
def ExtKeepsCardSaid : Prop := Claim7.holds Tryz.pinned (.plain (OpenSpec.ofChange extKeepsSpec)) extKeepsCard

/-- THE SECOND FORM's CARD OF 'tableaulaw02.WholeKeeps'. -/
def wholeKeepsUptoCard : Claim7 := { stood := { row := wholeKeepsUptoRow, standIns := [], harness := (true, "19dd318c77a71ad6cc32940279e1d94187e115360afcd60c5fb6685dfd16bab5"), looks := false }, kinds := [], alts := [], laidByText := true, laidKinds := [.data, .data, .data, .data, .pinned], laidTests := true, laidLooks := .later }
def WholeKeepsUptoCardSaid : Prop := Claim7.holds Tryz.pinned (.plain (OpenSpec.upto wholeKeepsSpec)) wholeKeepsUptoCard

/-- THE SECOND FORM's CARD OF 'tableaulaw03.RatKeeps'. -/
def ratKeepsUptoCard : Claim7 := { stood := { row := ratKeepsUptoRow, standIns := [], harness := (true, "19dd318c77a71ad6cc32940279e1d94187e115360afcd60c5fb6685dfd16bab5"), looks := false }, kinds := [], alts := [], laidByText := true, laidKinds := [.data, .data, .data, .data, .pinned], laidTests := true, laidLooks := .later }
def RatKeepsUptoCardSaid : Prop := Claim7.holds Tryz.pinned (.plain (OpenSpec.upto ratKeepsSpec)) ratKeepsUptoCard

/-- THE SECOND FORM's CARD OF 'tableaulaw04.ExtTurns'. -/
def extTurnsUptoCard : Claim7 := { stood := { row := extTurnsUptoRow, standIns := [], harness := (true, "19dd318c77a71ad6cc32940279e1d94187e115360afcd60c5fb6685dfd16bab5"), looks := false }, kinds := [], alts := [], laidByText := true, laidKinds := [.data, .data, .data, .data, .pinned], laidTests := true, laidLooks := .later }
def ExtTurnsUptoCardSaid : Prop := Claim7.holds Tryz.pinned (.plain (OpenSpec.upto extTurnsSpec)) extTurnsUptoCard

/-- THE SECOND FORM's CARD OF 'tableaulaw04.ExtKeeps'. -/
def extKeepsUptoCard : Claim7 := { stood := { row := extKeepsUptoRow, standIns := [], harness := (true, "19dd318c77a71ad6cc32940279e1d94187e115360afcd60c5fb6685dfd16bab5"), looks := false }, kinds := [], alts := [], laidByText := true, laidKinds := [.data, .data, .data, .data, .pinned], laidTests := true, laidLooks := .later }
def ExtKeepsUptoCardSaid : Prop := Claim7.holds Tryz.pinned (.plain (OpenSpec.upto extKeepsSpec)) extKeepsUptoCard
end Rows
end Go.Proofs.YtclopblgdiahiaaGreatDoor

/-
  DERIVED. GIVEN WITH THE SEED: THE CARDS: each row of YtlpmfmphglgocaaGreatDoorRows.lean that lists a variable, with what it lists TIED to the program's text (the seventh form; the later family's looks); each row that meets fmt, with fmt's text TOLD by the authors' own Lean function (tested against real Go, not proved from fmt's source: count such statements apart). THE CARD IS WHAT COUNTS. Prove the row's statement (the work); the ties are given (YtlpmfmphglgocaaGreatDoorTie.lean); close each card by the builder's one call (the guide's Derived/Test/ToyasCard.lean, 'card_holds'). Laid BY PROGRAM, IN A SANDBOX (cutbox-door.mjs). By AI agents, Wed Nov 11 2026. No macro, syntax, notation, axiom, sorry.
-/
import Derived.Test.YtlpmfmphglgocaaGreatDoorRows
import GoSem.ClaimSeven
namespace Go.Proofs.YtlpmfmphglgocaaGreatDoor
namespace Rows

/-- THE TIED CARD OF 'tableaulaw03.RatKeeps'. -/
def ratKeepsCard : Claim7 := { stood := { row := ratKeepsRow, standIns := [], harness := (true, "d3611f23bc84c8151736a5c891cedd906a404d59bd98a45cd48356dbaf1e500a"), looks := false }, kinds := [], alts := [], laidByText := true, laidKinds := [.data, .data, .data, .data, .pinned], laidTests := true, laidLooks := .later }
def RatKeepsCardSaid : Prop := Claim7.holds Tryz.pinned (.plain (OpenSpec.ofChange ratKeepsSpec)) ratKeepsCard

/-- THE TIED CARD OF 'tableaulaw04.ExtKeeps'. -/
def extKeepsCard : Claim7 := { stood := { row := extKeepsRow, standIns := [], harness := (true, "d3611f23bc84c8151736a5c891cedd906a404d59bd98a45cd48356dbaf1e500a"), looks := false }, kinds := [], alts := [], laidByText := true, laidKinds := [.data, .data, .data, .data, .pinned], laidTests := true, laidLooks := .later }
def ExtKeepsCardSaid : Prop := Claim7.holds Tryz.pinned (.plain (OpenSpec.ofChange extKeepsSpec)) extKeepsCard

/-- THE SECOND FORM's CARD OF 'tableaulaw03.RatKeeps'. -/
def ratKeepsUptoCard : Claim7 := { stood := { row := ratKeepsUptoRow, standIns := [], harness := (true, "d3611f23bc84c8151736a5c891cedd906a404d59bd98a45cd48356dbaf1e500a"), looks := false }, kinds := [], alts := [], laidByText := true, laidKinds := [.data, .data, .data, .data, .pinned], laidTests := true, laidLooks := .later }
def RatKeepsUptoCardSaid : Prop := Claim7.holds Tryz.pinned (.plain (OpenSpec.upto ratKeepsSpec)) ratKeepsUptoCard

/-- THE SECOND FORM's CARD OF 'tableaulaw04.ExtKeeps'. -/
def extKeepsUptoCard : Claim7 := { stood := { row := extKeepsUptoRow, standIns := [], harness := (true, "d3611f23bc84c8151736a5c891cedd906a404d59bd98a45cd48356dbaf1e500a"), looks := false }, kinds := [], alts := [], laidByText := true, laidKinds := [.data, .data, .data, .data, .pinned], laidTests := true, laidLooks := .later }
def ExtKeepsUptoCardSaid : Prop := Claim7.holds Tryz.pinned (.plain (OpenSpec.upto extKeepsSpec)) extKeepsUptoCard
end Rows
end Go.Proofs.YtlpmfmphglgocaaGreatDoor

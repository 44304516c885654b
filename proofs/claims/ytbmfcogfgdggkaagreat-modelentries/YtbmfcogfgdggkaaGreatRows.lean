/-
  No cell of these rows narrows 'for every input' (looked for: loops, veiled, ifaces, maps, wideKeys, modest, calm, conditions, laid).
  DERIVED. THE GIVEN ROWS OF THIS SEAT. 6 by the template 'for every input the law returns true; each argument reads behind the call as it read before'; 0 by the template 'total and deterministic' (their statements: YtbmfcogfgdggkaaGreatTotals.lean).
  GIVEN WITH THE SEED: the statements are not yours to turn. If you find one false, say at which input.
  Laid BY PROGRAM, IN A SANDBOX (cutbox-rows.mjs): the forced cells as the released guide's own fill.sh prints them over the translation d997c735d894cffe… (all of the seat's roots in one cut). By AI agents, Wed Nov 11 2026. No macro, syntax, notation, axiom, sorry.
-/
import Derived.Test.YtbmfcogfgdggkaaGreatChecked
import GoSem.Claim
import GoSem.ClaimJoined
import GoSem.ClaimMapViews
import Derived.JoinedTies
import Derived.KernelRfl
namespace Go.Proofs.YtbmfcogfgdggkaaGreat
/- THE CELL 'sum', in the pinned program and in every row, IS THE sha256 OF THE DUMP (.gsa) THAT YtbmfcogfgdggkaaGreatProg.lean LOADS. Nothing in Lean hashes anything: it is a label: what it is worth is what the hold of that sum in a sandbox is worth. -/
noncomputable def Tryz.pinned : Pinned := { name := "ytbmfcogfgdggkaagreat", sum := "d997c735d894cffe6d761f332bec5242f1d900edccffb20ae493adb2f398fa7a", checked := Tryz.checked }
namespace Rows
def none {H : Type} : Left H := { results := [], args := [] }

/-- 'tableaulaw07.ModelChecks': WHATEVER THE INPUT: true; the input reads as it did. -/
def modelChecksSpec : ChangeSpec := { name := "modelChecks", fn := fun _ => fun
  | [d] => { results := [.lit (.bool true)], args := [d] }
  | _ => none }
def modelChecksRow : OpenClaim := { program := "ytbmfcogfgdggkaagreat", sum := "d997c735d894cffe6d761f332bec5242f1d900edccffb20ae493adb2f398fa7a", func := "tableau/tableaulaw07.ModelChecks", spec := "modelChecks", inPlace := ["math/bits.Add64", "math/bits.Sub64"], unfollowed := true, recurses := true, named := ["math/bits.divideError", "math/bits.overflowError"], apart := false }
def ModelChecksSaid : Prop := modelChecksRow.holds Tryz.pinned (OpenSpec.ofChange modelChecksSpec)

/-- ITS FALSE NEIGHBOUR: 'it returns false'. Refute it at one input. -/
def modelChecksWrong : ChangeSpec := { name := "modelChecks", fn := fun _ => fun
  | [d] => { results := [.lit (.bool false)], args := [d] }
  | _ => none }
def ModelChecksWrongFalsely : Prop := modelChecksRow.holds Tryz.pinned (OpenSpec.ofChange modelChecksWrong)

/-- 'tableaulaw07.ModelColumns': WHATEVER THE INPUT: true; the input reads as it did. -/
def modelColumnsSpec : ChangeSpec := { name := "modelColumns", fn := fun _ => fun
  | [d] => { results := [.lit (.bool true)], args := [d] }
  | _ => none }
def modelColumnsRow : OpenClaim := { program := "ytbmfcogfgdggkaagreat", sum := "d997c735d894cffe6d761f332bec5242f1d900edccffb20ae493adb2f398fa7a", func := "tableau/tableaulaw07.ModelColumns", spec := "modelColumns", inPlace := ["math/bits.Add64", "math/bits.Sub64"], unfollowed := true, recurses := true, named := ["math/bits.divideError", "math/bits.overflowError"], apart := false }
def ModelColumnsSaid : Prop := modelColumnsRow.holds Tryz.pinned (OpenSpec.ofChange modelColumnsSpec)

/-- ITS FALSE NEIGHBOUR: 'it returns false'. Refute it at one input. -/
def modelColumnsWrong : ChangeSpec := { name := "modelColumns", fn := fun _ => fun
  | [d] => { results := [.lit (.bool false)], args := [d] }
  | _ => none }
def ModelColumnsWrongFalsely : Prop := modelColumnsRow.holds Tryz.pinned (OpenSpec.ofChange modelColumnsWrong)

/-- 'tableaulaw07.ModelNames': WHATEVER THE INPUT: true; the input reads as it did. -/
def modelNamesSpec : ChangeSpec := { name := "modelNames", fn := fun _ => fun
  | [d1, d2] => { results := [.lit (.bool true)], args := [d1, d2] }
  | _ => none }
def modelNamesRow : OpenClaim := { program := "ytbmfcogfgdggkaagreat", sum := "d997c735d894cffe6d761f332bec5242f1d900edccffb20ae493adb2f398fa7a", func := "tableau/tableaulaw07.ModelNames", spec := "modelNames", inPlace := ["math/bits.Add64", "math/bits.Sub64"], unfollowed := true, recurses := true, named := ["math/bits.divideError", "math/bits.overflowError"], apart := false }
def ModelNamesSaid : Prop := modelNamesRow.holds Tryz.pinned (OpenSpec.ofChange modelNamesSpec)

/-- ITS FALSE NEIGHBOUR: 'it returns false'. Refute it at one input. -/
def modelNamesWrong : ChangeSpec := { name := "modelNames", fn := fun _ => fun
  | [d1, d2] => { results := [.lit (.bool false)], args := [d1, d2] }
  | _ => none }
def ModelNamesWrongFalsely : Prop := modelNamesRow.holds Tryz.pinned (OpenSpec.ofChange modelNamesWrong)

/-- 'tableaulaw07.ModelEquals': WHATEVER THE INPUT: true; the input reads as it did. -/
def modelEqualsSpec : ChangeSpec := { name := "modelEquals", fn := fun _ => fun
  | [d1, d2] => { results := [.lit (.bool true)], args := [d1, d2] }
  | _ => none }
def modelEqualsRow : OpenClaim := { program := "ytbmfcogfgdggkaagreat", sum := "d997c735d894cffe6d761f332bec5242f1d900edccffb20ae493adb2f398fa7a", func := "tableau/tableaulaw07.ModelEquals", spec := "modelEquals", inPlace := ["math/bits.Add64", "math/bits.Sub64"], unfollowed := true, recurses := true, named := ["math/bits.divideError", "math/bits.overflowError"], apart := false }
def ModelEqualsSaid : Prop := modelEqualsRow.holds Tryz.pinned (OpenSpec.ofChange modelEqualsSpec)

/-- ITS FALSE NEIGHBOUR: 'it returns false'. Refute it at one input. -/
def modelEqualsWrong : ChangeSpec := { name := "modelEquals", fn := fun _ => fun
  | [d1, d2] => { results := [.lit (.bool false)], args := [d1, d2] }
  | _ => none }
def ModelEqualsWrongFalsely : Prop := modelEqualsRow.holds Tryz.pinned (OpenSpec.ofChange modelEqualsWrong)

/-- 'tableaulaw07.ModelEntries': WHATEVER THE INPUT: true; the input reads as it did. -/
def modelEntriesSpec : ChangeSpec := { name := "modelEntries", fn := fun _ => fun
  | [d] => { results := [.lit (.bool true)], args := [d] }
  | _ => none }
def modelEntriesRow : OpenClaim := { program := "ytbmfcogfgdggkaagreat", sum := "d997c735d894cffe6d761f332bec5242f1d900edccffb20ae493adb2f398fa7a", func := "tableau/tableaulaw07.ModelEntries", spec := "modelEntries", inPlace := ["math/bits.Add64", "math/bits.Sub64"], unfollowed := true, recurses := true, named := ["math/bits.divideError", "math/bits.overflowError"], apart := false }
def ModelEntriesSaid : Prop := modelEntriesRow.holds Tryz.pinned (OpenSpec.ofChange modelEntriesSpec)

/-- ITS FALSE NEIGHBOUR: 'it returns false'. Refute it at one input. -/
def modelEntriesWrong : ChangeSpec := { name := "modelEntries", fn := fun _ => fun
  | [d] => { results := [.lit (.bool false)], args := [d] }
  | _ => none }
def ModelEntriesWrongFalsely : Prop := modelEntriesRow.holds Tryz.pinned (OpenSpec.ofChange modelEntriesWrong)

/-- 'tableaulaw07.ModelKeeps': WHATEVER THE INPUT: true; the input reads as it did. -/
def modelKeepsSpec : ChangeSpec := { name := "modelKeeps", fn := fun _ => fun
  | [d] => { results := [.lit (.bool true)], args := [d] }
  | _ => none }
def modelKeepsRow : OpenClaim := { program := "ytbmfcogfgdggkaagreat", sum := "d997c735d894cffe6d761f332bec5242f1d900edccffb20ae493adb2f398fa7a", func := "tableau/tableaulaw07.ModelKeeps", spec := "modelKeeps", inPlace := ["math/bits.Add64", "math/bits.Sub64"], unfollowed := true, recurses := true, named := ["math/bits.divideError", "math/bits.overflowError"], apart := false }
def ModelKeepsSaid : Prop := modelKeepsRow.holds Tryz.pinned (OpenSpec.ofChange modelKeepsSpec)

/-- ITS FALSE NEIGHBOUR: 'it returns false'. Refute it at one input. -/
def modelKeepsWrong : ChangeSpec := { name := "modelKeeps", fn := fun _ => fun
  | [d] => { results := [.lit (.bool false)], args := [d] }
  | _ => none }
def ModelKeepsWrongFalsely : Prop := modelKeepsRow.holds Tryz.pinned (OpenSpec.ofChange modelKeepsWrong)

/- THE SECOND FORM. 'bulk': how many values and letters a reading holds, each counted each time it is reached (what is shared counts as often as it is met; a slice's spare places count too). A statement '..UptoSaid' is the law's where the arguments, and the package variables that the reading takes, are together of bulk at most 1048576: NARROWER than '..Said'. Prove '..Said' where nothing that the law and all that it calls make is longer than what came in: it says more and counts as full. Else prove '..UptoSaid'. A law counts once. -/
mutual
def uptoBulk {H : Type} : DataW H → Nat
  | .lit (.string bytes) => bytes.length + 1
  | .lit _ => 1
  | .nil => 1
  | .ptr d => uptoBulk d + 1
  | .slice elems spare => uptoBulkAll elems + uptoBulkAll spare + 1
  | .agg parts => uptoBulkAll parts + 1
  | .iface _ d => uptoBulk d + 1
  | .map entries => uptoBulkEntries entries + 1
  | .held _ => 1
def uptoBulkAll {H : Type} : List (DataW H) → Nat
  | [] => 0
  | d :: r => uptoBulk d + uptoBulkAll r
def uptoBulkEntries {H : Type} : List (Lit × DataW H) → Nat
  | [] => 0
  | x :: r => uptoBulkEntry x + uptoBulkEntries r
def uptoBulkEntry {H : Type} : Lit × DataW H → Nat
  | (.string bytes, d) => bytes.length + uptoBulk d + 1
  | (_, d) => uptoBulk d + 1
 end
def uptoSmall : (H : Type) → List (DataW H) → Bool := fun _ ds => decide (uptoBulkAll ds ≤ 1048576)
def OpenSpec.upto (s : _root_.Go.ChangeSpec) : _root_.Go.OpenSpec := { _root_.Go.OpenSpec.ofChange s with cond := some uptoSmall }

/-- 'tableaulaw07.ModelChecks', WHERE WHAT IT READS IS OF BULK AT MOST 1048576: true; the input reads as it did. -/
def modelChecksUptoRow : OpenClaim := { program := "ytbmfcogfgdggkaagreat", sum := "d997c735d894cffe6d761f332bec5242f1d900edccffb20ae493adb2f398fa7a", func := "tableau/tableaulaw07.ModelChecks", spec := "modelChecks", inPlace := ["math/bits.Add64", "math/bits.Sub64"], unfollowed := true, recurses := true, named := ["math/bits.divideError", "math/bits.overflowError"], apart := false, narrowed := true }
def ModelChecksUptoSaid : Prop := modelChecksUptoRow.holds Tryz.pinned (OpenSpec.upto modelChecksSpec)

/-- 'tableaulaw07.ModelColumns', WHERE WHAT IT READS IS OF BULK AT MOST 1048576: true; the input reads as it did. -/
def modelColumnsUptoRow : OpenClaim := { program := "ytbmfcogfgdggkaagreat", sum := "d997c735d894cffe6d761f332bec5242f1d900edccffb20ae493adb2f398fa7a", func := "tableau/tableaulaw07.ModelColumns", spec := "modelColumns", inPlace := ["math/bits.Add64", "math/bits.Sub64"], unfollowed := true, recurses := true, named := ["math/bits.divideError", "math/bits.overflowError"], apart := false, narrowed := true }
def ModelColumnsUptoSaid : Prop := modelColumnsUptoRow.holds Tryz.pinned (OpenSpec.upto modelColumnsSpec)

/-- 'tableaulaw07.ModelNames', WHERE WHAT IT READS IS OF BULK AT MOST 1048576: true; the input reads as it did. -/
def modelNamesUptoRow : OpenClaim := { program := "ytbmfcogfgdggkaagreat", sum := "d997c735d894cffe6d761f332bec5242f1d900edccffb20ae493adb2f398fa7a", func := "tableau/tableaulaw07.ModelNames", spec := "modelNames", inPlace := ["math/bits.Add64", "math/bits.Sub64"], unfollowed := true, recurses := true, named := ["math/bits.divideError", "math/bits.overflowError"], apart := false, narrowed := true }
def ModelNamesUptoSaid : Prop := modelNamesUptoRow.holds Tryz.pinned (OpenSpec.upto modelNamesSpec)

/-- 'tableaulaw07.ModelEquals', WHERE WHAT IT READS IS OF BULK AT MOST 1048576: true; the input reads as it did. -/
def modelEqualsUptoRow : OpenClaim := { program := "ytbmfcogfgdggkaagreat", sum := "d997c735d894cffe6d761f332bec5242f1d900edccffb20ae493adb2f398fa7a", func := "tableau/tableaulaw07.ModelEquals", spec := "modelEquals", inPlace := ["math/bits.Add64", "math/bits.Sub64"], unfollowed := true, recurses := true, named := ["math/bits.divideError", "math/bits.overflowError"], apart := false, narrowed := true }
def ModelEqualsUptoSaid : Prop := modelEqualsUptoRow.holds Tryz.pinned (OpenSpec.upto modelEqualsSpec)

/-- 'tableaulaw07.ModelEntries', WHERE WHAT IT READS IS OF BULK AT MOST 1048576: true; the input reads as it did. -/
def modelEntriesUptoRow : OpenClaim := { program := "ytbmfcogfgdggkaagreat", sum := "d997c735d894cffe6d761f332bec5242f1d900edccffb20ae493adb2f398fa7a", func := "tableau/tableaulaw07.ModelEntries", spec := "modelEntries", inPlace := ["math/bits.Add64", "math/bits.Sub64"], unfollowed := true, recurses := true, named := ["math/bits.divideError", "math/bits.overflowError"], apart := false, narrowed := true }
def ModelEntriesUptoSaid : Prop := modelEntriesUptoRow.holds Tryz.pinned (OpenSpec.upto modelEntriesSpec)

/-- 'tableaulaw07.ModelKeeps', WHERE WHAT IT READS IS OF BULK AT MOST 1048576: true; the input reads as it did. -/
def modelKeepsUptoRow : OpenClaim := { program := "ytbmfcogfgdggkaagreat", sum := "d997c735d894cffe6d761f332bec5242f1d900edccffb20ae493adb2f398fa7a", func := "tableau/tableaulaw07.ModelKeeps", spec := "modelKeeps", inPlace := ["math/bits.Add64", "math/bits.Sub64"], unfollowed := true, recurses := true, named := ["math/bits.divideError", "math/bits.overflowError"], apart := false, narrowed := true }
def ModelKeepsUptoSaid : Prop := modelKeepsUptoRow.holds Tryz.pinned (OpenSpec.upto modelKeepsSpec)

end Rows
end Go.Proofs.YtbmfcogfgdggkaaGreat

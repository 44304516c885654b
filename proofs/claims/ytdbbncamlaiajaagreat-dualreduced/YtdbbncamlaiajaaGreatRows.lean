/-
  No cell of these rows narrows 'for every input' (looked for: loops, veiled, ifaces, maps, wideKeys, modest, calm, conditions, laid).
  DERIVED. THE GIVEN ROWS OF THIS SEAT. 2 by the template 'for every input the law returns true; each argument reads behind the call as it read before'; 0 by the template 'total and deterministic' (their statements: YtdbbncamlaiajaaGreatTotals.lean).
  GIVEN WITH THE SEED: the statements are not yours to turn. If you find one false, say at which input.
  Laid BY PROGRAM, IN A SANDBOX (cutbox-rows.mjs): the forced cells as the released guide's own fill.sh prints them over the translation aa02e14964692039… (all of the seat's roots in one cut). By AI agents, Wed Nov 11 2026. No macro, syntax, notation, axiom, sorry.
-/
import Derived.Test.YtdbbncamlaiajaaGreatChecked
import GoSem.Claim
import GoSem.ClaimJoined
import GoSem.ClaimMapViews
import Derived.JoinedTies
import Derived.KernelRfl
namespace Go.Proofs.YtdbbncamlaiajaaGreat
/- THE CELL 'sum', in the pinned program and in every row, IS THE sha256 OF THE DUMP (.gsa) THAT YtdbbncamlaiajaaGreatProg.lean LOADS. Nothing in Lean hashes anything: it is a label: what it is worth is what the hold of that sum in a sandbox is worth. -/
noncomputable def Tryz.pinned : Pinned := { name := "ytdbbncamlaiajaagreat", sum := "aa02e14964692039dc98344d17d0f7620d64413d304c6c452af6d5879df60b50", checked := Tryz.checked }
namespace Rows
def none {H : Type} : Left H := { results := [], args := [] }

/-- 'tableaulaw11.DualReduced': WHATEVER THE INPUT: true; the input reads as it did. -/
def dualReducedSpec : ChangeSpec := { name := "dualReduced", fn := fun _ => fun
  | [d1, d2] => { results := [.lit (.bool true)], args := [d1, d2] }
  | _ => none }
def dualReducedRow : OpenClaim := { program := "ytdbbncamlaiajaagreat", sum := "aa02e14964692039dc98344d17d0f7620d64413d304c6c452af6d5879df60b50", func := "tableau/tableaulaw11.DualReduced", spec := "dualReduced", inPlace := ["math/bits.Add64", "math/bits.Sub64"], unfollowed := true, recurses := true, named := ["math/bits.divideError", "math/bits.overflowError"], apart := false }
def DualReducedSaid : Prop := dualReducedRow.holds Tryz.pinned (OpenSpec.ofChange dualReducedSpec)

/-- ITS FALSE NEIGHBOUR: 'it returns false'. Refute it at one input. -/
def dualReducedWrong : ChangeSpec := { name := "dualReduced", fn := fun _ => fun
  | [d1, d2] => { results := [.lit (.bool false)], args := [d1, d2] }
  | _ => none }
def DualReducedWrongFalsely : Prop := dualReducedRow.holds Tryz.pinned (OpenSpec.ofChange dualReducedWrong)

/-- 'tableaulaw11.DualHolds': WHATEVER THE INPUT: true; the input reads as it did. -/
def dualHoldsSpec : ChangeSpec := { name := "dualHolds", fn := fun _ => fun
  | [d1, d2] => { results := [.lit (.bool true)], args := [d1, d2] }
  | _ => none }
def dualHoldsRow : OpenClaim := { program := "ytdbbncamlaiajaagreat", sum := "aa02e14964692039dc98344d17d0f7620d64413d304c6c452af6d5879df60b50", func := "tableau/tableaulaw11.DualHolds", spec := "dualHolds", inPlace := ["math/bits.Add64", "math/bits.Sub64"], unfollowed := true, recurses := true, named := ["math/bits.divideError", "math/bits.overflowError"], apart := false }
def DualHoldsSaid : Prop := dualHoldsRow.holds Tryz.pinned (OpenSpec.ofChange dualHoldsSpec)

/-- ITS FALSE NEIGHBOUR: 'it returns false'. Refute it at one input. -/
def dualHoldsWrong : ChangeSpec := { name := "dualHolds", fn := fun _ => fun
  | [d1, d2] => { results := [.lit (.bool false)], args := [d1, d2] }
  | _ => none }
def DualHoldsWrongFalsely : Prop := dualHoldsRow.holds Tryz.pinned (OpenSpec.ofChange dualHoldsWrong)

/- THE SECOND FORM. 'bulk': how many values and letters a reading holds, each counted each time it is reached (what is shared counts as often as it is met; a slice's spare places count too). A statement '..UptoSaid' is the law's where the arguments, and the package variables that the reading takes, are together of bulk at most 1048576: NARROWER than '..Said'. Prove '..Said' where nothing that the law and all that it calls make is longer than what came in: it says more and counts as full. Else prove '..UptoSaid'. A law counts once. -/
mutual
def uptoBulk {H : Type} : DataW H → Nat
  | .lit (.string bytes) => bytes.length + 1
  | .lit _ => 1
  | .nil => 1
  | .ptr d => uptoBulk d + 1
  | .slice elems spare => uptoBulkAll elems + uptoBulkAll spare + 1
  | .agg parts => uptoBulkAll parts + 1
  | .iface _ d => uptoBulk d + 1
  | .map entries => uptoBulkEntries entries + 1
  | .held _ => 1
def uptoBulkAll {H : Type} : List (DataW H) → Nat
  | [] => 0
  | d :: r => uptoBulk d + uptoBulkAll r
def uptoBulkEntries {H : Type} : List (Lit × DataW H) → Nat
  | [] => 0
  | x :: r => uptoBulkEntry x + uptoBulkEntries r
def uptoBulkEntry {H : Type} : Lit × DataW H → Nat
  | (.string bytes, d) => bytes.length + uptoBulk d + 1
  | (_, d) => uptoBulk d + 1
 end
def uptoSmall : (H : Type) → List (DataW H) → Bool := fun _ ds => decide (uptoBulkAll ds ≤ 1048576)
def OpenSpec.upto (s : _root_.Go.ChangeSpec) : _root_.Go.OpenSpec := { _root_.Go.OpenSpec.ofChange s with cond := some uptoSmall }

/-- 'tableaulaw11.DualReduced', WHERE WHAT IT READS IS OF BULK AT MOST 1048576: true; the input reads as it did. -/
def dualReducedUptoRow : OpenClaim := { program := "ytdbbncamlaiajaagreat", sum := "aa02e14964692039dc98344d17d0f7620d64413d304c6c452af6d5879df60b50", func := "tableau/tableaulaw11.DualReduced", spec := "dualReduced", inPlace := ["math/bits.Add64", "math/bits.Sub64"], unfollowed := true, recurses := true, named := ["math/bits.divideError", "math/bits.overflowError"], apart := false, narrowed := true }
def DualReducedUptoSaid : Prop := dualReducedUptoRow.holds Tryz.pinned (OpenSpec.upto dualReducedSpec)

/-- 'tableaulaw11.DualHolds', WHERE WHAT IT READS IS OF BULK AT MOST 1048576: true; the input reads as it did. -/
def dualHoldsUptoRow : OpenClaim := { program := "ytdbbncamlaiajaagreat", sum := "aa02e14964692039dc98344d17d0f7620d64413d304c6c452af6d5879df60b50", func := "tableau/tableaulaw11.DualHolds", spec := "dualHolds", inPlace := ["math/bits.Add64", "math/bits.Sub64"], unfollowed := true, recurses := true, named := ["math/bits.divideError", "math/bits.overflowError"], apart := false, narrowed := true }
def DualHoldsUptoSaid : Prop := dualHoldsUptoRow.holds Tryz.pinned (OpenSpec.upto dualHoldsSpec)

end Rows
end Go.Proofs.YtdbbncamlaiajaaGreat

/-
  Walks of the document's reference for nat: the calls DocAdd, DocSub, DocCmp.
-/
import Derived.Test.YtjjbmioicliipabDoorR4
namespace Go.Proofs.YtjjbmioicliipabDoor
open Go.RowKit

/-- A number that the reference answers: it can be read; in form. -/
structure Ans (C : Nat) (w w' : World) (ao : Option Addr) (n : Nat) (f : Nat → Int) : Prop where
  bel : Below w.heap.size w w'
  rd : Rd .u64 w' ao n f
  le : n ≤ C
  lm : Lm f n
  fm : Fm f n

theorem and_fm {f h : Nat → Int} {n m : Nat} (e : (fmB f n && fmB h m) = true) : Fm f n ∧ Fm h m := by
  simp only [Bool.and_eq_true] at e
  exact ⟨fm_of e.1, fm_of e.2⟩
theorem nand_fm {f h : Nat → Int} {n m : Nat} (e : (fmB f n && fmB h m) = false) : ¬ (Fm f n ∧ Fm h m) := fun ⟨a, b⟩ => by
  rw [(fmB_iff f n).2 a, (fmB_iff h m).2 b] at e
  cases e

end Go.Proofs.YtjjbmioicliipabDoor

/-
  Rows of structs whose lists are spoiled before the row is told: what a row holds, and the lists themselves; the walk of law03's spoil. The walk of the reference's Twin of rat, with the owners of what it answers (written by makers/ow.py). Lists of terms in memory; the walks of package vec's isZero and Form. Lists of rational numbers in memory; the walks of package vec's allForm, allBelow, plus and times. Rows of structs that a call makes by append, none of whose cells is a limb: what stays when they are written. No Go text is named here. The walk of package vec's putter (gather's own function). Lists of terms in form, as values; the walk of package vec's merge. The walks of package vec's gather and of the call Plus, on lists in form. Lists of terms in form have values; the walk of package vec's call Plus, whatever it is handed. The walks of package vec's calls Scale and Sparse, whatever they are handed. The walk of package vec's call Sparse, whatever it is handed. The reference's Same and Sames of lists with the same values. What is known when all answers of RatKeeps lie there. What is known when all answers of ExtKeeps lie there. A drawn region as a flow: operations that make values or new memory (calls, builds, lists that are built) in whatever order, each shown once; behind them those that must come last. No Go text is named here. A drawn region as a flow (Df), whose values stand to one another as X says (written by makers/dx.py). No Go text is named here. Blocks that are told whole, and what is written into them. How long rational numbers are, by their values: sums and products. The call Dot of package vec, on lists in form whose columns lie below the number of the numbers. Package vec's call At. Lists of terms and lists of numbers, as values: sums, products with numbers, there and back. No Go text is named here. Between lists in memory and their values; rows of numbers that are made and written; the walk of package vec's call Dense, whatever it is handed. The walk of package vec's call Dense, whatever it is handed. Package vec's call Dot where it answers an error. Package vec's calls on lists in form, by their values; lists that are put together by their terms. append to a row of structs in a region that draws its order. No Go text is named here.
-/
import Derived.Test.YtlpmfmphglgocaaGreatDoorZ6
import Derived.Test.YtlpmfmphglgocaaGreatDoorZ5
import Derived.Test.YtlpmfmphglgocaaGreatDoorZ4
import Derived.BigQuiet
import Derived.Deep.RegionHeld3
import Derived.Test.YtlpmfmphglgocaaGreatDoorZ7
import Derived.Test.YtlpmfmphglgocaaGreatDoorZ0
namespace Go.Proofs.YtlpmfmphglgocaaGreatDoor
open Go.RowKit

/-- Only the block of p, and new blocks, were written. -/
structure Ch (p : Option Addr) (w w' : World) : Prop where
  os : w'.os = w.os
  tape : w'.tape = w.tape
  output : w'.output = w.output
  size : w.heap.size ≤ w'.heap.size
  block : ∀ k, k < w.heap.size → (∀ a, p = some a → a.block ≠ k) → w'.heap[k]? = w.heap[k]?
theorem Ch.refl (p : Option Addr) (w : World) : Ch p w w := ⟨rfl, rfl, rfl, Nat.le_refl _, fun _ _ _ => rfl⟩
theorem Ch.set {p w w'} (h : Ch p w w') {a : Addr} (ha : p = some a) {j : Nat} (u : Value) : Ch p w (w'.setCell ⟨a.block, j, none⟩ u) :=
  ⟨h.os, h.tape, h.output, by simpa [World.setCell] using h.size, fun k hk hn => (Below.heap_setCell w' ⟨a.block, j, none⟩ u k (fun e => hn a ha e.symm)).trans (h.block k hk hn)⟩
theorem Ch.alloc {p w w'} (h : Ch p w w') (o : Obj) : Ch p w (w'.alloc o) :=
  ⟨h.os, h.tape, h.output, Nat.le_trans h.size (by simp), fun k hk hn => (Below.heap_alloc _ _ _ (Nat.lt_of_lt_of_le hk h.size)).trans (h.block k hk hn)⟩
theorem Ch.grown {p n c w w' w''} (h : Ch p w w') (hg : w'.grownBy w'' (Value.ownBlock (.slice p n c))) : Ch p w w'' :=
  ⟨hg.os.trans h.os, hg.tape.trans h.tape, hg.output.trans h.output, Nat.le_trans h.size hg.size, fun k hk hn => (hg.block k (Nat.lt_of_lt_of_le hk h.size) (fun e => by
    cases p with
    | none => cases e
    | some a => exact hn a rfl (by simpa [Value.ownBlock] using e.symm))).trans (h.block k hk hn)⟩
theorem Turned.ch {lo hi : Nat} {a w w' : World} {p : Option Addr} (h : Turned lo hi a w) (hc : Ch p w w') (h1 : ∀ x, p = some x → lo ≤ x.block ∧ x.block < hi ∨ a.heap.size ≤ x.block) : Turned lo hi a w' :=
  ⟨hc.os.trans h.os, hc.tape.trans h.tape, hc.output.trans h.output, Nat.le_trans h.size hc.size, fun k hk hn => (hc.block k (Nat.lt_of_lt_of_le hk h.size) (fun x hx e => by have := h1 x hx; omega)).trans (h.block k hk hn)⟩

/-- A row of structs (what it tells of its lists: R) and its lists (L), which lie in blocks of their own. -/
structure KG (E : TypeId) (pos : Nat → Nat) (O : Nat → Option Value) (N s1 s2 : Nat) (w5 w : World) (g1 : Nat) (R L : Nat → Ls) : Prop where
  tur : Turned s1 s2 w5 w
  fam : FamP E w g1 N pos O R
  own : ∀ j, j < N → Lsb .u64 28 w (L j)
  dis : ∀ j k, j < N → k < N → j ≠ k → Apart (L j).p (L k).p
  loc : ∀ j, j < N → ∀ a, (L j).p = some a → a.block ≠ g1 ∧ (s1 ≤ a.block ∧ a.block < s2 ∨ w5.heap.size ≤ a.block)
  gs : s1 ≤ g1 ∧ g1 < s2
  inj : ∀ i j, i < N → j < N → pos i = pos j → i = j
theorem KG.drewN {E pos O N s1 s2 w5 w g1 R L} (h : KG E pos O N s1 s2 w5 w g1 R L) (q : Nat) : KG E pos O N s1 s2 w5 (w.drewN q) g1 R L := ⟨h.tur.drewN q, h.fam, h.own, h.dis, h.loc, h.gs, h.inj⟩
theorem KG.drew {E pos O N s1 s2 w5 w g1 R L} (h : KG E pos O N s1 s2 w5 w g1 R L) : KG E pos O N s1 s2 w5 w.drew g1 R L := ⟨h.tur.drew, h.fam, h.own, h.dis, h.loc, h.gs, h.inj⟩
theorem KG.alloc {E pos O N s1 s2 w5 w g1 R L} (h : KG E pos O N s1 s2 w5 w g1 R L) (ob : Obj) : KG E pos O N s1 s2 w5 (w.alloc ob) g1 R L := ⟨h.tur.alloc ob, h.fam.alloc ob, fun j hj => (h.own j hj).alloc ob, h.dis, h.loc, h.gs, h.inj⟩
theorem KG.below {E pos O N s1 s2 w5 w w' g1 R L} (h : KG E pos O N s1 s2 w5 w g1 R L) (hb : Below w.heap.size w w') : KG E pos O N s1 s2 w5 w' g1 R L :=
  ⟨h.tur.below hb, h.fam.of (hb.block _ h.fam.lt), fun j hj => Own.below (h.own j hj) hb, h.dis, h.loc, h.gs, h.inj⟩
/-- The row is told of a list. -/
theorem KG.put {E pos O N s1 s2 w5 w g1 R L} (h : KG E pos O N s1 s2 w5 w g1 R L) {i : Nat} (hi : i < N) (l : Ls) : KG E pos O N s1 s2 w5 (w.setCell ⟨g1, pos i, none⟩ (.slice l.p l.n l.c)) g1 (updL R i l) L :=
  ⟨h.tur.set' (.inl h.gs) _, h.fam.set h.inj hi l, fun j hj => (h.own j hj).of (fun a ha => Below.heap_setCell _ _ _ _ (h.loc j hj a ha).1), h.dis, h.loc, h.gs, h.inj⟩
/-- A list is written, or laid anew. -/
theorem KG.turn {E pos O N s1 s2 w5 w w' g1 R L} (h : KG E pos O N s1 s2 w5 w g1 R L) {i : Nat} (hi : i < N) {l : Ls} {g : Nat} (hl : l.p = some ⟨g, 0, none⟩) (hc : Ch (L i).p w w') (hown : Lsb .u64 28 w' l) (hw : w.heap.size ≤ g ∨ (L i).p = some ⟨g, 0, none⟩) : KG E pos O N s1 s2 w5 w' g1 R (updL L i l) := by
  have hg1 := h.fam.lt
  have hgw : w5.heap.size ≤ w.heap.size := h.tur.size
  have hgg : g ≠ g1 ∧ (s1 ≤ g ∧ g < s2 ∨ w5.heap.size ≤ g) := by
    rcases hw with hw | hw
    · exact ⟨by omega, .inr (by omega)⟩
    · exact h.loc i hi _ hw
  have hap : ∀ k, k < N → k ≠ i → ∀ a, (L k).p = some a → a.block ≠ g := by
    intro k hk hki a ha
    rcases hw with hw | hw
    · have := (h.own k hk).lt a ha; omega
    · exact h.dis k i hk hi hki a _ ha hw
  refine ⟨h.tur.ch hc (fun x hx => (h.loc i hi x hx).2), h.fam.of (hc.block g1 hg1 (fun a ha => (h.loc i hi a ha).1)), fun k hk => ?_, fun a b ha hb hab => ?_, fun k hk a ha => ?_, h.gs, h.inj⟩
  · by_cases hki : k = i
    · subst hki; rw [updL_same]; exact hown
    · rw [updL_other _ _ _ _ hki]
      exact (h.own k hk).of (fun a ha => hc.block _ ((h.own k hk).lt a ha) (fun b hb e => h.dis k i hk hi hki a b ha hb e.symm))
  · by_cases hai : a = i
    · subst hai
      rw [updL_same, updL_other _ _ _ _ (fun e => hab e.symm), hl]
      intro x y hx hy
      cases hx
      exact fun e => hap b hb (fun e => hab e.symm) y hy e.symm
    · rw [updL_other _ _ _ _ hai]
      by_cases hbi : b = i
      · subst hbi
        rw [updL_same, hl]
        intro x y hx hy
        cases hy
        exact hap a ha hai x hx
      · rw [updL_other _ _ _ _ hbi]; exact h.dis a b ha hb hab
  · by_cases hki : k = i
    · subst hki
      rw [updL_same, hl] at ha
      cases ha
      exact hgg
    · rw [updL_other _ _ _ _ hki] at ha; exact h.loc k hk a ha

end Go.Proofs.YtlpmfmphglgocaaGreatDoor
namespace Go.Proofs.YtlpmfmphglgocaaGreatDoor
open Go.RowKit

end Go.Proofs.YtlpmfmphglgocaaGreatDoor
namespace Go.Proofs.YtlpmfmphglgocaaGreatDoor
open Go.RowKit

/-- A number in memory: its sign, and where the limbs of numerator and denominator lie. -/
structure Nm where
  s : Bool
  x : Option Addr
  n : Nat
  c : Nat
  f : Nat → Int
  y : Option Addr
  m : Nat
  d : Nat
  g : Nat → Int
/-- It can be read, whatever it is, and is not too long. -/
def NmR (w : World) (t : Nm) : Prop := Rw w t.x t.n t.c t.f t.y t.m t.d t.g ∧ t.n ≤ 65536 ∧ t.m ≤ 65536
def nfB (t : Nm) : Bool := rfB t.s t.f t.n t.g t.m
theorem NmR.below {w w' t} (h : NmR w t) (hb : Below w.heap.size w w') : NmR w' t := ⟨h.1.below hb, h.2⟩
/-- Four cells from place o of block b on. -/
structure C4 (w : World) (b o : Nat) (a0 a1 a2 a3 : Value) : Prop where
  x0 : w.cell? ⟨b, o, none⟩ = some a0
  x1 : w.cell? ⟨b, o + 1, none⟩ = some a1
  x2 : w.cell? ⟨b, o + 2, none⟩ = some a2
  x3 : w.cell? ⟨b, o + 3, none⟩ = some a3
theorem C4.below {w w' b o a0 a1 a2 a3} (h : C4 w b o a0 a1 a2 a3) (hb : Below w.heap.size w w') : C4 w' b o a0 a1 a2 a3 := ⟨kCb hb h.x0, kCb hb h.x1, kCb hb h.x2, kCb hb h.x3⟩
end Go.Proofs.YtlpmfmphglgocaaGreatDoor
namespace Go.Proofs.YtlpmfmphglgocaaGreatDoor
open Go.RowKit

/-- Three cells from place o of block b on. -/
structure C3 (w : World) (b o : Nat) (a0 a1 a2 : Value) : Prop where
  x0 : w.cell? ⟨b, o, none⟩ = some a0
  x1 : w.cell? ⟨b, o + 1, none⟩ = some a1
  x2 : w.cell? ⟨b, o + 2, none⟩ = some a2
theorem C3.below {w w' b o a0 a1 a2} (h : C3 w b o a0 a1 a2) (hb : Below w.heap.size w w') : C3 w' b o a0 a1 a2 := ⟨kCb hb h.x0, kCb hb h.x1, kCb hb h.x2⟩
end Go.Proofs.YtlpmfmphglgocaaGreatDoor
namespace Go.Proofs.YtlpmfmphglgocaaGreatDoor
open Go.RowKit

/-- No cell is a limb. -/
def NoU (cur : Array Value) : Prop := ∀ (i : Nat) (z : Int), cur[i]? ≠ some (Value.int .u64 z)
/-- Nothing that holds limbs has turned; there may be new blocks. -/
structure Kp (w w' : World) : Prop where
  os : w'.os = w.os
  tape : w'.tape = w.tape
  output : w'.output = w.output
  size : w.heap.size ≤ w'.heap.size
  block : ∀ k, k < w.heap.size → w'.heap[k]? = w.heap[k]? ∨ ∃ cur t fr, w.heap[k]? = some (.cells cur t fr) ∧ NoU cur
theorem Kp.refl (w : World) : Kp w w := ⟨rfl, rfl, rfl, Nat.le_refl _, fun _ _ => .inl rfl⟩
theorem Kp.trans {a b c : World} (h : Kp a b) (k : Kp b c) : Kp a c :=
  ⟨k.os.trans h.os, k.tape.trans h.tape, k.output.trans h.output, Nat.le_trans h.size k.size, fun i hi => by
    rcases h.block i hi with e | e
    · rcases k.block i (Nat.lt_of_lt_of_le hi h.size) with e2 | ⟨cur, t, fr, e2, e3⟩
      · exact .inl (e2.trans e)
      · exact .inr ⟨cur, t, fr, e.symm.trans e2, e3⟩
    · exact .inr e⟩
theorem Kp.of_below {w w' : World} (h : Below w.heap.size w w') : Kp w w' := ⟨h.os, h.tape, h.output, h.size, fun k hk => .inl (h.block k hk)⟩
theorem Kp.drew {a w : World} (h : Kp a w) : Kp a w.drew := ⟨h.os, h.tape, h.output, h.size, h.block⟩
theorem Kp.drewN {a w : World} (h : Kp a w) (q : Nat) : Kp a (w.drewN q) := ⟨h.os, h.tape, h.output, h.size, h.block⟩
theorem Kp.alloc {a w : World} (h : Kp a w) (o : Obj) : Kp a (w.alloc o) := h.trans (Kp.of_below (below_alloc (Below.refl _ _) o))
theorem Kp.set {a w : World} (h : Kp a w) {x : Addr} {cur : Array Value} {t : TypeId} {fr : Nat × Nat} (hx : w.heap[x.block]? = some (.cells cur t fr)) (hu : NoU cur) (u : Value) : Kp a (w.setCell x u) :=
  h.trans ⟨rfl, rfl, rfl, by simp [World.setCell], fun k _ => by
    by_cases e : k = x.block
    · subst e; exact .inr ⟨cur, t, fr, hx, hu⟩
    · exact .inl (Below.heap_setCell _ _ _ _ e)⟩
theorem Rd.kp {w w' ao n f} (h : Rd .u64 w ao n f) (hk : Kp w w') : Rd .u64 w' ao n f := fun j hj => by
  obtain ⟨b, o, e, hc⟩ := h j hj
  refine ⟨b, o, e, ?_⟩
  have hl := World.block_lt_of_cell? w _ hc
  rcases hk.block b hl with h1 | ⟨cur, t, fr, h1, h2⟩
  · exact (World.cell?_of_block (a := ⟨b, o + j, none⟩) h1).trans hc
  · exfalso
    simp [World.cell?, h1] at hc
    exact h2 _ _ hc
theorem Wn.kp {w w' s x n c f v} (h : Wn w s x n c f v) (hk : Kp w w') : Wn w' s x n c f v := ⟨h.rd.kp hk, h.lm, h.wf, h.cap, h.nil, h.val⟩
theorem Rn.kp {L w w' s x n c f y m d g q} (h : Rn L w s x n c f y m d g q) (hk : Kp w w') : Rn L w' s x n c f y m d g q := ⟨h.num.kp hk, h.den.kp hk, h.ln, h.ld⟩

theorem nou_list {l : List Value} (h : ∀ u ∈ l, ∀ z, u ≠ .int .u64 z) : NoU l.toArray := fun i z he => by
  rw [List.getElem?_toArray] at he
  exact h _ (List.mem_of_getElem? he) z rfl
end Go.Proofs.YtlpmfmphglgocaaGreatDoor
namespace Go.Proofs.YtlpmfmphglgocaaGreatDoor
open Go.RowKit

end Go.Proofs.YtlpmfmphglgocaaGreatDoor
namespace Go.Proofs.YtlpmfmphglgocaaGreatDoor
open Go.RowKit

/-- A list of terms that reads as v, numbers in form of at most L limbs. -/
def Tf (L : Nat) (w : World) (ao : Option Addr) (v : List (Int × Rat)) : Prop :=
  ∀ (j : Nat) (a : Int) (q : Rat), v[j]? = some (a, q) → ∃ b o, ∃ t : Nm, ao = some ⟨b, o, none⟩ ∧ C4 w b (o + j * 4) (.int .i64 a) (.bool t.s) (.slice t.x t.n t.c) (.slice t.y t.m t.d) ∧ Rn L w t.s t.x t.n t.c t.f t.y t.m t.d t.g q
theorem Tf.below {L w w' ao v} (h : Tf L w ao v) (hb : Below w.heap.size w w') : Tf L w' ao v := fun j a q hj => by
  obtain ⟨b, o, t, e, h1, h2⟩ := h j a q hj
  exact ⟨b, o, t, e, h1.below hb, h2.below hb⟩
theorem Tf.nil (L : Nat) (w : World) (ao : Option Addr) : Tf L w ao [] := fun j a q h => by simp at h
end Go.Proofs.YtlpmfmphglgocaaGreatDoor
namespace Go.Proofs.YtlpmfmphglgocaaGreatDoor
open Go.RowKit

end Go.Proofs.YtlpmfmphglgocaaGreatDoor
namespace Go.Proofs.YtlpmfmphglgocaaGreatDoor
open Go.RowKit

theorem Nm.rn {w : World} {t : Nm} {L : Nat} (h : NmR w t) (hf : nfB t = true) (hn : t.n ≤ L) (hm : t.m ≤ L) : ∃ q, Rn L w t.s t.x t.n t.c t.f t.y t.m t.d t.g q := h.1.rn hf hn hm
end Go.Proofs.YtlpmfmphglgocaaGreatDoor
namespace Go.Proofs.YtlpmfmphglgocaaGreatDoor
open Go.RowKit

/-- A list of numbers that reads as p, in form, of at most L limbs. -/
def Rf (L : Nat) (w : World) (ao : Option Addr) (p : List Rat) : Prop :=
  ∀ (j : Nat) (q : Rat), p[j]? = some q → ∃ b o, ∃ t : Nm, ao = some ⟨b, o, none⟩ ∧ C3 w b (o + j * 3) (.bool t.s) (.slice t.x t.n t.c) (.slice t.y t.m t.d) ∧ Rn L w t.s t.x t.n t.c t.f t.y t.m t.d t.g q
theorem Rf.below {L w w' ao p} (h : Rf L w ao p) (hb : Below w.heap.size w w') : Rf L w' ao p := fun j q hj => by
  obtain ⟨b, o, t, e, h1, h2⟩ := h j q hj
  exact ⟨b, o, t, e, h1.below hb, h2.below hb⟩
end Go.Proofs.YtlpmfmphglgocaaGreatDoor
namespace Go.Proofs.YtlpmfmphglgocaaGreatDoor
open Go.RowKit

/-- What Sparse answers. -/
def OS (k : Nat) (pf : Bool) (L : Nat) (w' : World) (ao : Option Addr) (n cap : Nat) (er : Int) (vs : List (Int × Rat)) : Prop :=
  64 < k ∧ er = 2 ∧ ao = none ∧ n = 0 ∧ cap = 0 ∨ k ≤ 64 ∧ pf = false ∧ er = 3 ∧ ao = none ∧ n = 0 ∧ cap = 0 ∨ k ≤ 64 ∧ pf = true ∧ er = 0 ∧ n = vs.length ∧ vs.length ≤ cap ∧ cap ≤ 9223372036854775807 ∧ (ao = none → vs = [] ∧ cap = 0) ∧ Tf L w' ao vs

end Go.Proofs.YtlpmfmphglgocaaGreatDoor
namespace Go.Proofs.YtlpmfmphglgocaaGreatDoor
open Go.RowKit

theorem rSameEq_c {L L' w sa xa na ca fa ya ma da ga sb xb nb cb fb yb mb db gb q} (ha : Rn L w sa xa na ca fa ya ma da ga q) (hb : Rn L' w sb xb nb cb fb yb mb db gb q) (h1 : L ≤ 1048576) (h2 : L' ≤ 1048576) :
    Calls Tryz.prog 9 #[.agg #[.bool sa, .slice xa na ca, .slice ya ma da], .agg #[.bool sb, .slice xb nb cb, .slice yb mb db]] w fun e w' => e = .returned (.bool true) ∧ Below w.heap.size w w' := by
  have l1 := ha.ln; have l2 := ha.ld; have l3 := hb.ln; have l4 := hb.ld
  refine (rSame_c sa xa ya na ca ma da fa ga sb xb yb nb cb mb db fb gb w ha.num.rd ha.den.rd hb.num.rd hb.den.rd (by omega) (by omega) (by omega) (by omega)).mono ?_
  rintro e w' ⟨c, rfl, h3, h4⟩
  refine ⟨?_, h3⟩
  rw [h4.2 ((ha.inj hb).2 rfl)]

end Go.Proofs.YtlpmfmphglgocaaGreatDoor
namespace Go.Proofs.YtlpmfmphglgocaaGreatDoor
open Go.RowKit

theorem RvQ.rn {w s l k q} (h : RvQ s l k (some q)) (h1 : Lsb .u64 28 w l) (h2 : Lsb .u64 28 w k) : Rn 2000 w s l.p l.n l.c l.f k.p k.n k.c k.f q := by
  obtain ⟨⟨a1, a2⟩, a3, a4⟩ := h.some' q rfl
  have e1 := Own.slice h1; have e2 := Own.slice h2
  exact ⟨⟨e1.2.2.2.1, h.lm.1, a1, ⟨e1.1, e1.2.1⟩, e1.2.2.1, a2⟩, ⟨e2.2.2.2.1, h.lm.2, a3, ⟨e2.1, e2.2.1⟩, e2.2.2.1, a4⟩, h.le.1, h.le.2⟩
/-- Answers to one question are alike. -/
theorem rvq_same {w : World} {s t : Bool} {l k l' k' : Ls} {v : Option Rat} (h : RvQ s l k v) (h' : RvQ t l' k' v) (o1 : Lsb .u64 28 w l) (o2 : Lsb .u64 28 w k) (o3 : Lsb .u64 28 w l') (o4 : Lsb .u64 28 w k') :
    Calls Tryz.prog 9 #[.agg #[.bool s, .slice l.p l.n l.c, .slice k.p k.n k.c], .agg #[.bool t, .slice l'.p l'.n l'.c, .slice k'.p k'.n k'.c]] w fun e w' => e = .returned (.bool true) ∧ Below w.heap.size w w' := by
  cases v with
  | none =>
    obtain ⟨a1, a2, a3⟩ := h.no rfl
    obtain ⟨b1, b2, b3⟩ := h'.no rfl
    have e1 := h.le; have e2 := h'.le
    refine (rSame_c s l.p k.p l.n l.c k.n k.c l.f k.f t l'.p k'.p l'.n l'.c k'.n k'.c l'.f k'.f w o1.rd o2.rd o3.rd o4.rd (by omega) (by omega) (by omega) (by omega)).mono ?_
    rintro e w' ⟨b, rfl, hb, hc⟩
    have : b = true := hc.2 ⟨by rw [a1, b1], ⟨by rw [a2, b2], fun j hj => by omega⟩, by rw [a3, b3], fun j hj => by omega⟩
    subst this
    exact ⟨rfl, hb⟩
  | some q => exact rSameEq_c (h.rn o1 o2) (h'.rn o3 o4) (by omega) (by omega)
theorem rSame_self {w : World} {s : Bool} {x y : Option Addr} {n c m d : Nat} {f g : Nat → Int} {x' y' : Option Addr} {c' d' : Nat} (h1 : Rd .u64 w x n f) (h2 : Rd .u64 w y m g) (h3 : Rd .u64 w x' n f) (h4 : Rd .u64 w y' m g) (hn : n ≤ 1000) (hm : m ≤ 1000) :
    Calls Tryz.prog 9 #[.agg #[.bool s, .slice x n c, .slice y m d], .agg #[.bool s, .slice x' n c', .slice y' m d']] w fun e w' => e = .returned (.bool true) ∧ Below w.heap.size w w' := by
  refine (rSame_c s x y n c m d f g s x' y' n c' m d' f g w h1 h2 h3 h4 (by omega) (by omega) (by omega) (by omega)).mono ?_
  rintro e w' ⟨b, rfl, hb, hc⟩
  have : b = true := hc.2 ⟨rfl, ⟨rfl, fun _ _ => rfl⟩, rfl, fun _ _ => rfl⟩
  subst this
  exact ⟨rfl, hb⟩
end Go.Proofs.YtlpmfmphglgocaaGreatDoor
namespace Go.Proofs.YtlpmfmphglgocaaGreatDoor
open Go.RowKit

/-- What lies ahead of the answers: what was handed in, and the twins. -/
structure In12 (w : World) (B : Nat) (ia : Int) (a : Nm) (ib : Int) (b r a' b' r' : Nm) (b7 b8 b9 : Nat) : Prop where
  ra : Rw w a.x a.n a.c a.f a.y a.m a.d a.g
  rb : Rw w b.x b.n b.c b.f b.y b.m b.d b.g
  rr : Rw w r.x r.n r.c r.f r.y r.m r.d r.g
  ba : Bx4 w B (.int .i64 ia) (.bool a.s) (.slice a.x a.n a.c) (.slice a.y a.m a.d)
  bb : Bx4 w (B + 1) (.int .i64 ib) (.bool b.s) (.slice b.x b.n b.c) (.slice b.y b.m b.d)
  br : Bx3 w (B + 1 + 1) (.bool r.s) (.slice r.x r.n r.c) (.slice r.y r.m r.d)
  xa : Bx4 w b7 (.int .i64 ia) (.bool a.s) (.slice a'.x a.n a'.c) (.slice a'.y a.m a'.d)
  xb : Bx4 w b8 (.int .i64 ib) (.bool b.s) (.slice b'.x b.n b'.c) (.slice b'.y b.m b'.d)
  xr : Bx3 w b9 (.bool r.s) (.slice r'.x r.n r'.c) (.slice r'.y r.m r'.d)
  za : Rw w a'.x a.n a'.c a.f a'.y a.m a'.d a.g
  zb : Rw w b'.x b.n b'.c b.f b'.y b.m b'.d b.g
  zr : Rw w r'.x r.n r'.c r.f r'.y r.m r'.d r.g
theorem In12.below {w w' B ia a ib b r a' b' r' b7 b8 b9} (I : In12 w B ia a ib b r a' b' r' b7 b8 b9) (hb : Below w.heap.size w w') : In12 w' B ia a ib b r a' b' r' b7 b8 b9 :=
  ⟨I.ra.below hb, I.rb.below hb, I.rr.below hb, I.ba.below hb, I.bb.below hb, I.br.below hb, I.xa.below hb, I.xb.below hb, I.xr.below hb, I.za.below hb, I.zb.below hb, I.zr.below hb⟩
/-- A row of bounds that stands. -/
structure StE (w : World) (g : Nat) (I : Nat → Int) (S : Nat → Bool) (L : Nat → Ls) : Prop where
  fam : FamP 33 w g 16 posE (othE I S) L
  own : ∀ j, j < 16 → Lsb .u64 28 w (L j)
theorem AnsE.st {w w' g I S L V} (h : AnsE w w' g I S L V) : StE w' g I S L := ⟨h.fam, h.up.own⟩
theorem StE.below {w w' g I S L} (h : StE w g I S L) (hb : Below w.heap.size w w') : StE w' g I S L := ⟨h.fam.of (hb.block g h.fam.lt), fun j hj => Own.below (h.own j hj) hb⟩
theorem StE.turned {lo hi w w' g I S L} (h : StE w g I S L) (ht : Turned lo hi w w') (hg : g < lo ∨ hi ≤ g) (hl : ∀ j, j < 16 → ∀ a, (L j).p = some a → a.block < lo ∨ hi ≤ a.block) : StE w' g I S L :=
  ⟨h.fam.of (ht.block g h.fam.lt hg), fun j hj => (h.own j hj).of (fun a ha => ht.block _ ((h.own j hj).lt a ha) (hl j hj a ha))⟩
theorem fam_cells12 {w : World} {g : Nat} {I : Nat → Int} {S : Nat → Bool} {L : Nat → Ls} (h : FamP 33 w g 16 posE (othE I S) L) {i : Nat} (hi : i < 8) : w.cell? ⟨g, i * 4, none⟩ = some (.int .i64 (I i)) ∧ w.cell? ⟨g, i * 4 + 1, none⟩ = some (.bool (S i)) ∧ w.cell? ⟨g, i * 4 + 2, none⟩ = some (.slice (L (2 * i)).p (L (2 * i)).n (L (2 * i)).c) ∧ w.cell? ⟨g, i * 4 + 3, none⟩ = some (.slice (L (2 * i + 1)).p (L (2 * i + 1)).n (L (2 * i + 1)).c) := by
  refine ⟨?_, ?_, ?_, ?_⟩
  · have := h.other (t := i * 4) (fun j _ e => by unfold posE at e; omega)
    rw [this]
    unfold othE
    rw [if_pos (by omega), if_pos (by omega), show i * 4 / 4 = i by omega]
  · have := h.other (t := i * 4 + 1) (fun j _ e => by unfold posE at e; omega)
    rw [this]
    unfold othE
    rw [if_pos (by omega), if_neg (by omega), show (i * 4 + 1) / 4 = i by omega]
  · have := h.cell (j := 2 * i) (by omega)
    rw [show posE (2 * i) = i * 4 + 2 by unfold posE; omega] at this
    exact this
  · have := h.cell (j := 2 * i + 1) (by omega)
    rw [show posE (2 * i + 1) = i * 4 + 3 by unfold posE; omega] at this
    exact this
/-- What is known when all answers lie there. -/
structure All12 (w4 w6 w7 w8 : World) (B : Nat) (ia : Int) (a : Nm) (ib : Int) (b r a' b' r' : Nm) (b7 b8 b9 g1 g2 g3 : Nat) (I : Nat → Int) (S1 S2 S3 : Nat → Bool) (one two want : Nat → Ls) (V : Nat → Option Rat) : Prop where
  in0 : In12 w4 B ia a ib b r a' b' r' b7 b8 b9
  b48 : Below w4.heap.size w4 w8
  s12 : w4.heap.size ≤ w6.heap.size
  s23 : w6.heap.size ≤ w7.heap.size
  s34 : w7.heap.size ≤ w8.heap.size
  st1 : StE w8 g1 I S1 one
  st2 : StE w8 g2 I S2 two
  st3 : StE w8 g3 I S3 want
  d1 : ∀ j k, j < 16 → k < 16 → j ≠ k → Apart (one j).p (one k).p
  l1 : ∀ j, j < 16 → ∀ a, (one j).p = some a → a.block ≠ g1 ∧ (w4.heap.size ≤ a.block ∧ a.block < w6.heap.size)
  l2 : ∀ j, j < 16 → ∀ a, (two j).p = some a → w6.heap.size ≤ a.block
  l3 : ∀ j, j < 16 → ∀ a, (want j).p = some a → w7.heap.size ≤ a.block
  g1s : w4.heap.size ≤ g1 ∧ g1 < w6.heap.size
  g2s : w6.heap.size ≤ g2
  g3s : w7.heap.size ≤ g3
  v1 : ∀ j, j < 8 → RvQ (S1 j) (one (2 * j)) (one (2 * j + 1)) (V j)
  v2 : ∀ j, j < 8 → RvQ (S2 j) (two (2 * j)) (two (2 * j + 1)) (V j)
  v3 : ∀ j, j < 8 → RvQ (S3 j) (want (2 * j)) (want (2 * j + 1)) (V j)
theorem all12_mk {w4 : World} {w6 : World} {w7 : World} {wt : World} {w8 : World} {B : Nat} {ia : Int} {ib : Int} {a : Nm} {b : Nm} {r : Nm} {a' : Nm} {b' : Nm} {r' : Nm} {b7 : Nat} {b8 : Nat} {b9 : Nat} {g1 : Nat} {g2 : Nat} {g3 : Nat} {I : Nat → Int} {S1 : Nat → Bool} {S2 : Nat → Bool} {S3 : Nat → Bool} {one : Nat → Ls} {two : Nat → Ls} {want : Nat → Ls} {V : Nat → Option Rat} (i0 : In12 w4 B ia a ib b r a' b' r' b7 b8 b9) (a1 : AnsE w4 w6 g1 I S1 one V) (a2 : AnsE w6 w7 g2 I S2 two V) (ht : Below w7.heap.size w7 wt) (a3 : AnsE wt w8 g3 I S3 want V) : All12 w4 w6 w7 w8 B ia a ib b r a' b' r' b7 b8 b9 g1 g2 g3 I S1 S2 S3 one two want V := by
  have c7 : Below w7.heap.size w7 w8 := ht.trans (a3.bel.mono ht.size)
  have c6 : Below w6.heap.size w6 w8 := a2.bel.trans (c7.mono a2.bel.size)
  have c4 : Below w4.heap.size w4 w8 := a1.bel.trans (c6.mono a1.bel.size)
  exact ⟨i0, c4, a1.bel.size, a2.bel.size, c7.size, a1.st.below c6, a2.st.below c7, a3.st, a1.up.dis,
    fun j hj x hx => ⟨a1.ng j hj x hx, a1.up.loc j hj x hx, (a1.up.own j hj).lt x hx⟩, fun j hj x hx => a2.up.loc j hj x hx,
    fun j hj x hx => Nat.le_trans ht.size (a3.up.loc j hj x hx), ⟨a1.gs, a1.fam.lt⟩, a2.gs, Nat.le_trans ht.size a3.gs, a1.up.val, a2.up.val, a3.up.val⟩
theorem All12.k1 {w4 : World} {w6 : World} {w7 : World} {w8 : World} {B : Nat} {ia : Int} {ib : Int} {a : Nm} {b : Nm} {r : Nm} {a' : Nm} {b' : Nm} {r' : Nm} {b7 : Nat} {b8 : Nat} {b9 : Nat} {g1 : Nat} {g2 : Nat} {g3 : Nat} {I : Nat → Int} {S1 : Nat → Bool} {S2 : Nat → Bool} {S3 : Nat → Bool} {one : Nat → Ls} {two : Nat → Ls} {want : Nat → Ls} {V : Nat → Option Rat} (A : All12 w4 w6 w7 w8 B ia a ib b r a' b' r' b7 b8 b9 g1 g2 g3 I S1 S2 S3 one two want V) : KG 33 posE (othE I S1) 16 w4.heap.size w6.heap.size w8 w8 g1 one one :=
  ⟨Turned.refl _ _ _, A.st1.fam, A.st1.own, A.d1, fun j hj x hx => ⟨(A.l1 j hj x hx).1, .inl (A.l1 j hj x hx).2⟩, A.g1s, posE_inj⟩
/-- The other rows stand. -/
theorem All12.t1 {w4 : World} {w6 : World} {w7 : World} {w8 : World} {w : World} {B : Nat} {ia : Int} {ib : Int} {a : Nm} {b : Nm} {r : Nm} {a' : Nm} {b' : Nm} {r' : Nm} {b7 : Nat} {b8 : Nat} {b9 : Nat} {g1 : Nat} {g2 : Nat} {g3 : Nat} {I : Nat → Int} {S1 : Nat → Bool} {S2 : Nat → Bool} {S3 : Nat → Bool} {one : Nat → Ls} {two : Nat → Ls} {want : Nat → Ls} {V : Nat → Option Rat} (A : All12 w4 w6 w7 w8 B ia a ib b r a' b' r' b7 b8 b9 g1 g2 g3 I S1 S2 S3 one two want V) (ht : Turned w4.heap.size w6.heap.size w8 w) : StE w g2 I S2 two ∧ StE w g3 I S3 want ∧ In12 w B ia a ib b r a' b' r' b7 b8 b9 ∧ Below w4.heap.size w8 w := by
  have h1 := A.s12; have h2 := A.s23; have h3 := A.s34; have hg2 := A.g2s; have hg3 := A.g3s
  exact ⟨A.st2.turned ht (.inr hg2) (fun j hj a ha => .inr (A.l2 j hj a ha)), A.st3.turned ht (.inr (by omega)) (fun j hj a ha => .inr (by have := A.l3 j hj a ha; omega)), A.in0.below (A.b48.trans (ht.bel (Nat.le_refl _) (by omega))), ht.bel (Nat.le_refl _) (by omega)⟩
theorem eSame_v {w : World} {i : Int} {s t : Bool} {l k l' k' : Ls} {v : Option Rat} (h : RvQ s l k v) (h' : RvQ t l' k' v) (o1 : Lsb .u64 28 w l) (o2 : Lsb .u64 28 w k) (o3 : Lsb .u64 28 w l') (o4 : Lsb .u64 28 w k') :
    Calls Tryz.prog 16 #[.agg #[.int .i64 i, .bool s, .slice l.p l.n l.c, .slice k.p k.n k.c], .agg #[.int .i64 i, .bool t, .slice l'.p l'.n l'.c, .slice k'.p k'.n k'.c]] w fun e w' => e = .returned (.bool true) ∧ Below w.heap.size w w' :=
  xSame_of (fun _ hW => rvq_same h h' (Own.below o1 hW) (Own.below o2 hW) (Own.below o3 hW) (Own.below o4 hW))
theorem eSame_self {w : World} {i : Int} {s : Bool} {x y : Option Addr} {n c m d : Nat} {f g : Nat → Int} {x' y' : Option Addr} {c' d' : Nat} (h1 : Rd .u64 w x n f) (h2 : Rd .u64 w y m g) (h3 : Rd .u64 w x' n f) (h4 : Rd .u64 w y' m g) (hn : n ≤ 1000) (hm : m ≤ 1000) :
    Calls Tryz.prog 16 #[.agg #[.int .i64 i, .bool s, .slice x n c, .slice y m d], .agg #[.int .i64 i, .bool s, .slice x' n c', .slice y' m d']] w fun e w' => e = .returned (.bool true) ∧ Below w.heap.size w w' :=
  xSame_of (fun _ hW => rSame_self (h1.below hW (Nat.le_refl _)) (h2.below hW (Nat.le_refl _)) (h3.below hW (Nat.le_refl _)) (h4.below hW (Nat.le_refl _)) hn hm)
/-- A limb of a list of the row is written. -/
theorem KG.poke {E pos O N s1 s2 w5 w g1 R L} (h : KG E pos O N s1 s2 w5 w g1 R L) {i : Nat} (hi : i < N) {g n c : Nat} {f : Nat → Int} (hl : L i = ⟨some ⟨g, 0, none⟩, n, c, f⟩) {j : Nat} (hj : j < n) (v : Int) : KG E pos O N s1 s2 w5 (w.setCell ⟨g, j, none⟩ (.int .u64 v)) g1 R (updL L i ⟨some ⟨g, 0, none⟩, n, c, upd f j v⟩) :=
  h.turn hi (l := ⟨some ⟨g, 0, none⟩, n, c, upd f j v⟩) (g := g) rfl (by rw [hl]; exact (Ch.refl _ _).set rfl _) (own_set (by have := h.own i hi; rw [hl] at this; exact this) hj v) (by rw [hl]; exact .inr rfl)
/-- Where its limb can be written. -/
theorem KG.limb {E pos O N s1 s2 w5 w g1 R L} (h : KG E pos O N s1 s2 w5 w g1 R L) {i : Nat} (hi : i < N) {x : Option Addr} {n c : Nat} {f : Nat → Int} (hl : L i = ⟨x, n, c, f⟩) {j : Nat} (hj : j < n) : ∃ g, x = some ⟨g, 0, none⟩ ∧ w.cell? ⟨g, j, none⟩ = some (.int .u64 (f j)) ∧ w.frozen? ⟨g, j, none⟩ = false := by
  have o1 := h.own i hi
  rw [hl] at o1
  obtain ⟨gi, og, hpe⟩ := o1.rd.at (show 0 < n by omega)
  have hpe2 : x = some ⟨gi, og, none⟩ := hpe
  subst hpe2
  obtain ⟨gi3, e2, _⟩ := own_at o1
  cases e2
  have hcl := o1.rd.cell (j := j) hj
  rw [Nat.zero_add] at hcl
  refine ⟨gi, rfl, hcl, ?_⟩
  obtain ⟨h1, h2⟩ := o1
  rcases h2 with ⟨h3, h4⟩ | ⟨g, cap', cur, hv, hb', hg, hn, hm, hs, ht⟩
  · cases h3
  · cases hv
    simp [World.frozen?, hg]
end Go.Proofs.YtlpmfmphglgocaaGreatDoor
namespace Go.Proofs.YtlpmfmphglgocaaGreatDoor
open Go.RowKit

/-- Where operation j puts what it yields. -/
def dstOf (ops : Array Oper) (j : Nat) : Option Tmp := (ops[j]?).bind (·.dst)
/-- The operations that operation i waits for. -/
def depsOf (md : Region.Mode) (ops : Array Oper) (i : Nat) : List Nat := match ops[i]? with
  | none => []
  | some o => (o.after.toList.filter (Region.binds md)).map (·.on)
/-- All that those of l wait for, n steps back. -/
def ancs (md : Region.Mode) (ops : Array Oper) : Nat → List Nat → List Nat
  | 0, _ => []
  | n + 1, l => (l.flatMap (depsOf md ops)).eraseDups ++ ancs md ops n (l.flatMap (depsOf md ops)).eraseDups
/-- The state with what those of D (an operation, its slot) yield. -/
def fill (a : Act) (D : List (Nat × Tmp)) (u : Nat → Value) : Act := D.foldl (fun a p => a.put (some p.2) (u p.1)) a
/-- What lies in those slots. -/
def lies (a : Act) (D : List (Nat × Tmp)) (j : Nat) : Value := match D.lookup j with
  | some d => a.tmps.getD d undef
  | none => undef
def updV (u : Nat → Value) (i : Nat) (v : Value) : Nat → Value := fun j => if j = i then v else u j
theorem updV_at (u : Nat → Value) (i : Nat) (v : Value) : updV u i v i = v := by simp [updV]
theorem updV_ne {u : Nat → Value} {i j : Nat} {v : Value} (h : j ≠ i) : updV u i v j = u j := by simp [updV, h]
theorem put_same (a : Act) (d : Tmp) (x y : Value) : (a.put (some d) x).put (some d) y = a.put (some d) y := by
  simp [Act.put]
theorem put_other (a : Act) {d e : Tmp} (h : d ≠ e) (x y : Value) : (a.put (some d) x).put (some e) y = (a.put (some e) y).put (some d) x := by
  simp only [Act.put]
  congr 1
  exact Array.setIfInBounds_comm _ _ h
theorem put_lies (a : Act) (d : Tmp) : a.put (some d) (a.tmps.getD d undef) = a := by
  obtain ⟨t, ds⟩ := a
  simp only [Act.put]
  congr 1
  apply Array.ext_getElem?
  intro i
  rw [Array.getElem?_setIfInBounds]
  split
  · rename_i h
    subst h
    split
    · rename_i h2; simp [h2]
    · rename_i h2; rw [Array.getElem?_eq_none (by omega)]
  · rfl
theorem fill_other {D : List (Nat × Tmp)} {d : Tmp} {u : Nat → Value} (v : Value) : ∀ {a : Act}, d ∉ D.map Prod.snd → (fill a D u).put (some d) v = fill (a.put (some d) v) D u := by
  induction D with
  | nil => intro a _; rfl
  | cons p D ih =>
    intro a h
    simp only [List.map_cons, List.mem_cons, not_or] at h
    show (fill (a.put (some p.2) (u p.1)) D u).put (some d) v = fill ((a.put (some d) v).put (some p.2) (u p.1)) D u
    rw [ih h.2, put_other a (Ne.symm h.1)]
theorem fill_congr {D : List (Nat × Tmp)} {u u' : Nat → Value} : ∀ {a : Act}, (∀ p, p ∈ D → u p.1 = u' p.1) → fill a D u = fill a D u' := by
  induction D with
  | nil => intro a _; rfl
  | cons p D ih =>
    intro a h
    show fill (a.put (some p.2) (u p.1)) D u = fill (a.put (some p.2) (u' p.1)) D u'
    rw [h p (by simp), ih (fun q hq => h q (by simp [hq]))]
theorem fill_put {D : List (Nat × Tmp)} {i : Nat} {d : Tmp} {u : Nat → Value} (v : Value) : ∀ {a : Act}, (D.map Prod.fst).Nodup → (D.map Prod.snd).Nodup → (i, d) ∈ D → (fill a D u).put (some d) v = fill a D (updV u i v) := by
  induction D with
  | nil => intro a _ _ h; cases h
  | cons p D ih =>
    intro a h1 h2 h
    simp only [List.map_cons, List.nodup_cons] at h1 h2
    show (fill (a.put (some p.2) (u p.1)) D u).put (some d) v = fill (a.put (some p.2) (updV u i v p.1)) D (updV u i v)
    by_cases e : p.1 = i
    · have hp : p = (i, d) := by
        rcases List.mem_cons.1 h with h | h
        · exact h.symm
        · exact absurd (by rw [e]; exact List.mem_map_of_mem (f := Prod.fst) h) h1.1
      subst hp
      rw [fill_other v h2.1, put_same, updV_at]
      exact fill_congr (fun q hq => (updV_ne (fun e => h1.1 (by show i ∈ _; rw [← e]; exact List.mem_map_of_mem (f := Prod.fst) hq))).symm)
    · have hm : (i, d) ∈ D := by
        rcases List.mem_cons.1 h with h | h
        · exact absurd (by rw [← h]) e
        · exact h
      rw [ih h1.2 h2.2 hm, updV_ne e]
theorem fill_lies {D : List (Nat × Tmp)} {u : Nat → Value} {a : Act} (h : ∀ p, p ∈ D → u p.1 = a.tmps.getD p.2 undef) : fill a D u = a := by
  induction D with
  | nil => rfl
  | cons p D ih =>
    show fill (a.put (some p.2) (u p.1)) D u = a
    rw [h p (by simp), put_lies]
    exact ih (fun q hq => h q (by simp [hq]))
theorem lies_at {D : List (Nat × Tmp)} {a : Act} : (D.map Prod.fst).Nodup → ∀ p, p ∈ D → lies a D p.1 = a.tmps.getD p.2 undef := by
  intro hn p hp
  have : D.lookup p.1 = some p.2 := by
    induction D with
    | nil => cases hp
    | cons x D ih =>
      simp only [List.map_cons, List.nodup_cons] at hn
      rcases List.mem_cons.1 hp with rfl | hp
      · simp [List.lookup]
      · have hne : p.1 ≠ x.1 := fun e => hn.1 (e ▸ List.mem_map_of_mem (f := Prod.fst) hp)
        rw [List.lookup]
        have : (p.1 == x.1) = false := by simpa using hne
        rw [this]
        exact ih hn.2 hp
  unfold lies
  rw [this]
/-- The slots of D are where its operations put what they yield. -/
def slotsOk (ops : Array Oper) (D : List (Nat × Tmp)) (F : List Nat) : Bool := (D.map Prod.fst == F) && decide (D.map Prod.snd).Nodup && D.all (fun p => dstOf ops p.1 == some p.2)
/-- F may go in whatever order, and those of st come behind all of F. -/
def flowOk (md : Region.Mode) (ops : Array Oper) (listed : Array Bool) (F st : List Nat) : Bool :=
  listed.size == ops.size && F.Nodup &&
  (List.range ops.size).all (fun i => !(listed.getD i false) || (depsOf md ops i).all (fun j => listed.getD j false)) &&
  F.all (fun i => !(listed.getD i true) && decide (i < ops.size) && !(st.contains i) && (depsOf md ops i).all (fun j => decide (j < i) && (listed.getD j false || F.contains j))) &&
  (List.range ops.size).all (fun i => listed.getD i false || F.contains i || st.contains i) &&
  st.all (fun s => !(listed.getD s true) && ((depsOf md ops s).any (fun j => st.contains j) || F.all (fun j => (ancs md ops ops.size [s]).contains j)))
/-- What is listed once all of F is. -/
def fullOf (ops : Array Oper) (st : List Nat) : Array Bool := ((List.range ops.size).map (fun i => !(st.contains i))).toArray

theorem mem_deps {md : Region.Mode} {ops : Array Oper} {i j : Nat} : j ∈ depsOf md ops i ↔ ∃ o, ops[i]? = some o ∧ ∃ e, e ∈ o.after ∧ Region.binds md e = true ∧ e.on = j := by
  unfold depsOf
  cases h : ops[i]? with
  | none => simp
  | some o => simp [and_assoc]
theorem anc_listed {md : Region.Mode} {ops : Array Oper} {listed : Array Bool} (hc : ∀ i j, listed.getD i false = true → j ∈ depsOf md ops i → listed.getD j false = true) :
    ∀ (n : Nat) (l : List Nat), (∀ i, i ∈ l → ∀ j, j ∈ depsOf md ops i → listed.getD j false = true) → ∀ j, j ∈ ancs md ops n l → listed.getD j false = true
  | 0, _, _, j, h => by simp [ancs] at h
  | n + 1, l, hl, j, h => by
    have h1 : ∀ k, k ∈ (l.flatMap (depsOf md ops)).eraseDups → listed.getD k false = true := fun k hk => by
      rw [List.mem_eraseDups, List.mem_flatMap] at hk
      obtain ⟨i, hi, hki⟩ := hk
      exact hl i hi k hki
    simp only [ancs, List.mem_append] at h
    rcases h with h | h
    · exact h1 j h
    · exact anc_listed hc n _ (fun i hi k hk => hc i k (h1 i hi) hk) j h
theorem getD_ft {l : Array Bool} {i : Nat} (h : i < l.size) : l.getD i true = l.getD i false := by simp [Array.getD, h]
/-- How many of F are not listed. -/
def left (listed : Array Bool) : List Nat → Nat
  | [] => 0
  | x :: F => (if listed.getD x false = true then 0 else 1) + left listed F
theorem left_set {listed : Array Bool} {i : Nat} (hi : i < listed.size) (hl : listed.getD i false = false) : ∀ {F : List Nat}, F.Nodup → left listed F = left (listed.setIfInBounds i true) F + (if i ∈ F then 1 else 0)
  | [], _ => by simp [left]
  | x :: F, h => by
    have h' := List.nodup_cons.1 h
    have ih := left_set hi hl h'.2
    have hi' : (listed.setIfInBounds i true).getD i false = true := by simp [Array.getD, hi]
    simp only [left]
    by_cases hx : x = i
    · subst hx
      rw [hi', hl, ih]
      simp [h'.1]; omega
    · have h1 : (listed.setIfInBounds i true).getD x false = listed.getD x false := getD_set_ne false (Ne.symm hx)
      rw [h1, ih]
      have : (i ∈ x :: F) = (i ∈ F) := by simp [Ne.symm hx]
      simp only [this]; omega
theorem left_none {listed : Array Bool} : ∀ {F : List Nat}, left listed F = 0 → ∀ j, j ∈ F → listed.getD j false = true
  | [], _, j, hj => by cases hj
  | x :: F, h, j, hj => by
    simp only [left] at h
    rcases List.mem_cons.1 hj with rfl | hj
    · cases hb : listed.getD j false
      · rw [hb] at h; simp at h
      · rfl
    · exact left_none (by omega) j hj
theorem left_some {listed : Array Bool} : ∀ {F : List Nat}, left listed F ≠ 0 → ∃ j, j ∈ F ∧ listed.getD j false = false
  | [], h => absurd rfl h
  | x :: F, h => by
    cases hb : listed.getD x false
    · exact ⟨x, by simp, hb⟩
    · simp only [left] at h
      rw [hb] at h
      obtain ⟨j, h1, h2⟩ := left_some (F := F) (by simpa using h)
      exact ⟨j, by simp [h1], h2⟩
theorem left_all {listed : Array Bool} : ∀ {F : List Nat}, (∀ j, j ∈ F → listed.getD j false = false) → left listed F = F.length
  | [], _ => rfl
  | x :: F, h => by
    simp only [left, h x (by simp), List.length_cons]
    rw [left_all (fun j hj => h j (by simp [hj]))]
    simp; omega
theorem wpOp_of {P : Program} {ops : Array Oper} {Q : Exit → Act → World → Prop} {i : Nat} {o : Oper} {K : Act → World → Prop} {a : Act} {w : World} (ho : ops[i]? = some o) (h : if Region.wanted o (yielded ops a.tmps) = true then Oper.wp P o a w K Q else K (a.put o.dst undef) w) : wpOp P ops Q i K a w := by
  unfold wpOp
  simp only [ho]
  split at h
  · rename_i hw; simp only [hw, if_true]; exact .inl h
  · rename_i hw; simp only [hw]; exact h

end Go.Proofs.YtlpmfmphglgocaaGreatDoor
namespace Go.Proofs.YtlpmfmphglgocaaGreatDoor
open Go.RowKit

/-- One operation at whatever time, its own answers at hand. -/
def StepOkX (P : Program) (md : Region.Mode) (ops : Array Oper) (Q : Exit → Act → World → Prop) (S : World → Prop) (G : Nat → Value → World → Prop) (X : Nat → Nat → Value → Value → Prop) (a0 : Act) (w0 : World) (D : List (Nat × Tmp)) (F : List Nat) (i : Nat) : Prop :=
  ∃ o, ops[i]? = some o ∧ ∀ u w, S w → Below w0.heap.size w0 w → (∀ j, F.contains j = true → (depsOf md ops i).contains j = true → G j (u j) w) →
    ∀ K : Act → World → Prop, Shut (∀ v w', Below w.heap.size w w' → G i v w' → (∀ j z, F.contains j = true → j ≠ i → G j z w → X i j v z ∧ X j i z v) → K ((fill a0 D u).put o.dst v) w') → if Region.wanted o (yielded ops (fill a0 D u).tmps) = true then Oper.wp P o (fill a0 D u) w K Q else K ((fill a0 D u).put o.dst undef) w

theorem wpAnyH_flowX {P : Program} {md : Region.Mode} {ops : Array Oper} {Q : Exit → Act → World → Prop} {S : World → Prop} (G : Nat → Value → World → Prop) (X : Nat → Nat → Value → Value → Prop) (D : List (Nat × Tmp)) (F st : List Nat) (listed0 : Array Bool) (a0 : Act) (w0 : World) (fuel : Nat)
    (hok : flowOk md ops listed0 F st = true) (hsl : slotsOk ops D F = true)
    (hS : ∀ w w', S w → Below w.heap.size w w' → S w')
    (hG : ∀ j v w w', G j v w → Below w.heap.size w w' → G j v w')
    (hstep : ∀ i, i ∈ F → StepOkX P md ops Q S G X a0 w0 D F i)
    (hend : ∀ u w, S w → Below w0.heap.size w0 w → (∀ j, j ∈ F → G j (u j) w) → (∀ j k, j ∈ F → k ∈ F → j ≠ k → X j k (u j) (u k)) → wpAnyH P md ops Q S fuel (fullOf ops st) (fill a0 D u) w)
    (hS0 : S w0) : wpAnyH P md ops Q S (F.length + fuel) listed0 a0 w0 := by
  simp only [flowOk, Bool.and_eq_true, beq_iff_eq] at hok
  obtain ⟨⟨⟨⟨⟨k1, k0⟩, k2⟩, k3⟩, k4⟩, k5⟩ := hok
  have k0 : F.Nodup := of_decide_eq_true k0
  have k2' : ∀ i j, listed0.getD i false = true → j ∈ depsOf md ops i → listed0.getD j false = true := fun i j hi hj => by
    have hlt : i < ops.size := by
      rcases Nat.lt_or_ge i ops.size with h | h
      · exact h
      · rw [← k1] at h; simp [Array.getElem?_eq_none h] at hi
    have := List.all_eq_true.1 k2 i (List.mem_range.2 hlt)
    rw [hi] at this
    simpa using List.all_eq_true.1 (by simpa using this) j hj
  have k3' : ∀ i, i ∈ F → listed0.getD i true = false ∧ i < ops.size ∧ i ∉ st ∧ ∀ j, j ∈ depsOf md ops i → j < i ∧ (listed0.getD j false = true ∨ j ∈ F) := fun i hi => by
    have := List.all_eq_true.1 k3 i hi
    simp only [Bool.and_eq_true, Bool.not_eq_true', decide_eq_true_eq] at this
    obtain ⟨⟨⟨a, b⟩, c⟩, d⟩ := this
    refine ⟨a, b, fun h => ?_, fun j hj => ?_⟩
    · rw [List.contains_iff_mem.2 h] at c; cases c
    · have := List.all_eq_true.1 d j hj
      simp only [Bool.and_eq_true, decide_eq_true_eq, Bool.or_eq_true] at this
      exact ⟨this.1, this.2.imp id (fun h => List.contains_iff_mem.1 h)⟩
  have k4' : ∀ i, i < ops.size → listed0.getD i false = true ∨ i ∈ F ∨ i ∈ st := fun i hi => by
    have := List.all_eq_true.1 k4 i (List.mem_range.2 hi)
    simp only [Bool.or_eq_true] at this
    rcases this with (h | h) | h
    · exact .inl h
    · exact .inr (.inl (List.contains_iff_mem.1 h))
    · exact .inr (.inr (List.contains_iff_mem.1 h))
  have k5' : ∀ s, s ∈ st → listed0.getD s true = false ∧ ((∃ j, j ∈ depsOf md ops s ∧ j ∈ st) ∨ ∀ j, j ∈ F → j ∈ ancs md ops ops.size [s]) := fun s hs => by
    have := List.all_eq_true.1 k5 s hs
    simp only [Bool.and_eq_true, Bool.not_eq_true', Bool.or_eq_true] at this
    refine ⟨this.1, this.2.imp (fun h => ?_) (fun h j hj => List.contains_iff_mem.1 (List.all_eq_true.1 h j hj))⟩
    obtain ⟨j, h1, h2⟩ := List.any_eq_true.1 h
    exact ⟨j, h1, List.contains_iff_mem.1 h2⟩
  simp only [slotsOk, Bool.and_eq_true, beq_iff_eq, decide_eq_true_eq] at hsl
  obtain ⟨⟨hf, h2⟩, h3⟩ := hsl
  have h1 : (D.map Prod.fst).Nodup := hf ▸ k0
  have hput : ∀ i, i ∈ F → ∀ u v, (fill a0 D u).put (dstOf ops i) v = fill a0 D (updV u i v) := fun i hi u v => by
    rw [← hf] at hi
    obtain ⟨⟨i', d⟩, hp, rfl⟩ := List.mem_map.1 hi
    have h4 := List.all_eq_true.1 h3 _ hp
    rw [beq_iff_eq.1 h4]
    exact fill_put v h1 h2 hp
  have h0 : fill a0 D (lies a0 D) = a0 := fill_lies (lies_at h1)
  -- at any time
  have main : ∀ (n : Nat) (listed : Array Bool) (u : Nat → Value) (w : World), left listed F ≤ n → listed.size = ops.size → (∀ i, i ∉ F → listed.getD i false = listed0.getD i false) → (∀ i j, listed.getD i false = true → j ∈ depsOf md ops i → listed.getD j false = true) →
      S w → Below w0.heap.size w0 w → (∀ j, j ∈ F → listed.getD j false = true → G j (u j) w) → (∀ j k, j ∈ F → k ∈ F → j ≠ k → listed.getD j false = true → listed.getD k false = true → X j k (u j) (u k)) → ∀ m, m = left listed F → wpAnyH P md ops Q S (m + fuel) listed (fill a0 D u) w := by
    intro n
    induction n with
    | zero =>
      intro listed u w hn hsz hout hcl hw hb hg hx m hm
      have hz : left listed F = 0 := by omega
      have hall := left_none hz
      have hl : listed = fullOf ops st := by
        apply Array.ext
        · rw [hsz]; simp [fullOf]
        · intro i h1 h2
          have hi : i < ops.size := by omega
          have e1 : listed[i] = listed.getD i false := by simp [Array.getD, h1]
          have e2 : (fullOf ops st)[i] = !(st.contains i) := by simp [fullOf]
          rw [e1, e2]
          by_cases hF : i ∈ F
          · rw [hall i hF]
            have := (k3' i hF).2.2.1
            simp [this]
          · rw [hout i hF]
            by_cases hs : i ∈ st
            · have := (k5' i hs).1
              rw [getD_ft (by omega)] at this
              rw [this]; simp [hs]
            · rcases k4' i hi with h | h | h
              · rw [h]; simp [hs]
              · exact absurd h hF
              · exact absurd h hs
      rw [hm, hz, Nat.zero_add, hl]
      exact hend u w hw hb (fun j hj => hg j hj (hall j hj)) (fun j k hj hk hjk => hx j k hj hk hjk (hall j hj) (hall k hk))
    | succ n ih =>
      intro listed u w hn hsz hout hcl hw hb hg hx m hm
      by_cases hz : left listed F = 0
      · exact ih listed u w (by omega) hsz hout hcl hw hb hg hx m hm
      · obtain ⟨m', rfl⟩ : ∃ m', m = m' + 1 := ⟨m - 1, by omega⟩
        -- one of F is ready
        have hex := left_some hz
        have hmin : ∀ b i, i ≤ b → i ∈ F → listed.getD i false = false → ∃ i, i ∈ F ∧ listed.getD i false = false ∧ ∀ j, j ∈ F → j < i → listed.getD j false = true := by
          intro b
          induction b with
          | zero => intro i hi hF hl; exact ⟨i, hF, hl, fun j _ hj => by omega⟩
          | succ b ihb =>
            intro i hi hF hl
            by_cases h : ∃ j, j ∈ F ∧ j < i ∧ listed.getD j false = false
            · obtain ⟨j, h1, h2, h3⟩ := h
              exact ihb j (by omega) h1 h3
            · refine ⟨i, hF, hl, fun j h1 h2 => ?_⟩
              cases h3 : listed.getD j false
              · exact absurd ⟨j, h1, h2, h3⟩ h
              · rfl
        have hne : Region.ready md ops listed ≠ [] := by
          obtain ⟨i0, h1, h2⟩ := hex
          obtain ⟨i, hF, hl, hmn⟩ := hmin i0 i0 (Nat.le_refl _) h1 h2
          obtain ⟨_, hlt, _, hd⟩ := k3' i hF
          have : i ∈ Region.ready md ops listed := mem_ready.2 ⟨by rw [getD_ft (by omega)]; exact hl, ops[i], by simp [hlt], fun e he hb => by
            obtain ⟨h1, h2⟩ := hd e.on (mem_deps.2 ⟨ops[i], by simp [hlt], e, he, hb, rfl⟩)
            by_cases hFe : e.on ∈ F
            · exact hmn _ hFe h1
            · rw [hout _ hFe]; exact h2.resolve_right hFe⟩
          intro h; rw [h] at this; cases this
        rw [show m' + 1 + fuel = (m' + fuel) + 1 by omega]
        refine ⟨fun h => absurd h hne, fun i hi => ?_⟩
        obtain ⟨hun, o, ho, hdep⟩ := mem_ready.1 hi
        have hlt : i < ops.size := (Array.getElem?_eq_some_iff.1 ho).1
        have hlf : listed.getD i false = false := by rw [← getD_ft (by omega)]; exact hun
        have hdl : ∀ j, j ∈ depsOf md ops i → listed.getD j false = true := fun j hj => by
          obtain ⟨o', ho', e, he, hb', rfl⟩ := mem_deps.1 hj
          have : o' = o := Option.some.inj (ho'.symm.trans ho)
          subst this
          exact hdep e he hb'
        by_cases hF : i ∈ F
        case neg =>
          exfalso
          have h1 := hout i hF
          rw [hlf] at h1
          rcases k4' i hlt with h | h | h
          · rw [h] at h1; cases h1
          · exact hF h
          · rcases (k5' i h).2 with ⟨j, hj, hjs⟩ | hanc
            · have h2 := hdl j hj
              have h3 := k5' j hjs
              by_cases hjF : j ∈ F
              · exact (k3' j hjF).2.2.1 hjs
              · rw [hout j hjF] at h2
                have h4 := h3.1
                have hjl : j < listed0.size := by
                  rcases Nat.lt_or_ge j listed0.size with h | h
                  · exact h
                  · simp [Array.getElem?_eq_none h] at h2
                rw [getD_ft hjl, h2] at h4; cases h4
            · obtain ⟨j, hjF, hjl⟩ := hex
              have := anc_listed hcl ops.size [i] (fun k hk l hl => by simp at hk; subst hk; exact hdl l hl) j (hanc j hjF)
              rw [hjl] at this; cases this
        obtain ⟨o', ho', hst⟩ := hstep i hF
        obtain rfl : o' = o := Option.some.inj (ho'.symm.trans ho)
        refine wpOp_of ho ?_
        refine hst u w hw hb (fun j hj hd => hg j (List.contains_iff_mem.1 hj) (hdl j (List.contains_iff_mem.1 hd))) _ (fun v w' hb' hgi hxi => ?_)
        have hdst : o'.dst = dstOf ops i := by simp [dstOf, ho]
        refine ⟨hS w w' hw hb', ?_⟩
        rw [hdst, hput i hF]
        have hlt' := left_set (by omega) hlf k0
        simp only [hF, if_true] at hlt'
        have hset : ∀ j, j ≠ i → (listed.setIfInBounds i true).getD j false = listed.getD j false := fun j hj => getD_set_ne false (Ne.symm hj)
        have hseti : (listed.setIfInBounds i true).getD i false = true := by simp [Array.getD, show i < listed.size by omega]
        refine ih (listed.setIfInBounds i true) (updV u i v) w' (by omega) (by simpa using hsz) (fun j hj => ?_) (fun j k hj hk => ?_) (hS w w' hw hb') (hb.trans (hb'.mono hb.size)) (fun j hj hl => ?_) (fun j k hj hk hjk h1 h2 => ?_) m' (by omega)
        · rw [hset j (fun e => hj (e ▸ hF)), hout j hj]
        · by_cases hji : j = i
          · subst hji
            exact getD_set_true (hdl k hk)
          · rw [hset j hji] at hj
            exact getD_set_true (hcl j k hj hk)
        · by_cases hji : j = i
          · subst hji; rw [updV_at]; exact hgi
          · rw [updV_ne hji]
            rw [hset j hji] at hl
            exact hG j (u j) w w' (hg j hj hl) hb'
        · by_cases hji : j = i
          · subst hji
            rw [updV_at, updV_ne (Ne.symm hjk)]
            rw [hset k (Ne.symm hjk)] at h2
            exact (hxi k (u k) (List.contains_iff_mem.2 hk) (Ne.symm hjk) (hg k hk h2)).1
          · rw [hset j hji] at h1
            by_cases hki : k = i
            · subst hki
              rw [updV_at, updV_ne hji]
              exact (hxi j (u j) (List.contains_iff_mem.2 hj) hji (hg j hj h1)).2
            · rw [hset k hki] at h2
              rw [updV_ne hji, updV_ne hki]
              exact hx j k hj hk hjk h1 h2
  have hleft : left listed0 F = F.length := left_all (fun i hi => by
    have h1 := (k3' i hi).1
    have h2 := (k3' i hi).2.1
    rw [getD_ft (by omega)] at h1
    exact h1)
  have := main (left listed0 F) listed0 (lies a0 D) w0 (Nat.le_refl _) k1 (fun _ _ => rfl) k2' hS0 (Below.refl _ _) (fun j hj hl => by
    have h1 := (k3' j hj).1
    have h2 := (k3' j hj).2.1
    rw [getD_ft (by omega), hl] at h1; cases h1) (fun j k hj hk _ hl _ => by
    have h1 := (k3' j hj).1
    have h2 := (k3' j hj).2.1
    rw [getD_ft (by omega), hl] at h1; cases h1) F.length hleft.symm
  rw [h0] at this
  exact this
end Go.Proofs.YtlpmfmphglgocaaGreatDoor
namespace Go.Proofs.YtlpmfmphglgocaaGreatDoor
open Go.RowKit

/-- A block, whole: it may be written. -/
def Bk (w : World) (B : Nat) (vs : List Value) (t : TypeId) : Prop := w.heap[B]? = some (.cells vs.toArray t (0, 0))
theorem bk_new (w : World) (vs : List Value) (t : TypeId) : Bk (w.alloc (.cells vs.toArray t)) w.heap.size vs t := heap_alloc_new w _
theorem Bk.lt {w B vs t} (h : Bk w B vs t) : B < w.heap.size := (Array.getElem?_eq_some_iff.1 h).1
theorem Bk.below {w w' B vs t} (h : Bk w B vs t) (hb : Below w.heap.size w w') : Bk w' B vs t := (hb.block B h.lt).trans h
theorem Bk.cell {w B vs t} (h : Bk w B vs t) {j : Nat} {v : Value} (hv : vs[j]? = some v) : w.cell? ⟨B, j, none⟩ = some v := by
  unfold Bk at h
  simp only [World.cell?, h]
  simpa using hv
theorem Bk.frozen {w B vs t} (h : Bk w B vs t) (o : Nat) : w.frozen? ⟨B, o, none⟩ = false := by
  unfold Bk at h
  simp [World.frozen?, h]
/-- One cell of a block that is written. -/
theorem Bk.set {w B vs t} (h : Bk w B vs t) (j : Nat) (v : Value) : Bk (w.setCell ⟨B, j, none⟩ v) B (vs.set j v) t := by
  unfold Bk at *
  simp [World.setCell, Array.getElem?_modify, h]
theorem Bk.of {w w' B vs t} (h : Bk w B vs t) (hb : w'.heap[B]? = w.heap[B]?) : Bk w' B vs t := hb.trans h
/-- A block's cells written one after another. -/
def stl (B : Nat) : Nat → List Value → World → World
  | _, [], w => w
  | o, v :: vs, w => stl B (o + 1) vs (w.setCell ⟨B, o, none⟩ v)
theorem stl_at (B : Nat) : ∀ (vs : List Value) (o : Nat) (w : World), (stl B o vs w).os = w.os ∧ (stl B o vs w).tape = w.tape ∧ (stl B o vs w).output = w.output ∧ (stl B o vs w).heap.size = w.heap.size ∧ ∀ k, k ≠ B → (stl B o vs w).heap[k]? = w.heap[k]?
  | [], o, w => ⟨rfl, rfl, rfl, rfl, fun _ _ => rfl⟩
  | v :: vs, o, w => by
    obtain ⟨h1, h2, h3, h4, h5⟩ := stl_at B vs (o + 1) (w.setCell ⟨B, o, none⟩ v)
    refine ⟨h1, h2, h3, ?_, fun k hk => ?_⟩
    · show (stl B (o + 1) vs (w.setCell ⟨B, o, none⟩ v)).heap.size = _
      rw [h4]; simp [World.setCell]
    · show (stl B (o + 1) vs (w.setCell ⟨B, o, none⟩ v)).heap[k]? = _
      rw [h5 k hk]; exact Below.heap_setCell _ _ _ _ hk
theorem st_new {w w6 : World} {B : Nat} {us : List Value} {t : TypeId} (vs : List Value) (h : Bk w6 B us t) (hu : NoU us.toArray) (hb : Below w.heap.size w w6) (hB : w.heap.size ≤ B) :
    Below w.heap.size w (stl B 0 vs w6) ∧ Kp w6 (stl B 0 vs w6) ∧ ∀ k, k ≠ B → (stl B 0 vs w6).heap[k]? = w6.heap[k]? := by
  obtain ⟨h1, h2, h3, h4, h5⟩ := stl_at B vs 0 w6
  refine ⟨hb.trans ⟨h1, h2, h3, by omega, fun k hk => h5 k (by omega)⟩, ⟨h1, h2, h3, by omega, fun k _ => ?_⟩, h5⟩
  by_cases hk : k = B
  · subst hk; exact .inr ⟨_, t, (0, 0), h, hu⟩
  · exact .inl (h5 k hk)
theorem stl_bk {B : Nat} {t : TypeId} : ∀ (vs us : List Value) (o : Nat) (w : World), us.length = o + vs.length → Bk w B us t → Bk (stl B o vs w) B (us.take o ++ vs) t
  | [], us, o, w, hl, h => by
    rw [List.append_nil, List.take_of_length_le (by simp at hl; omega)]; exact h
  | v :: vs, us, o, w, hl, h => by
    have hl' : us.length = o + (vs.length + 1) := hl
    have := stl_bk vs (us.set o v) (o + 1) (w.setCell ⟨B, o, none⟩ v) (by rw [List.length_set]; omega) (h.set o v)
    have e : (us.set o v).take (o + 1) ++ vs = us.take o ++ v :: vs := by
      rw [List.take_add_one, List.take_set_of_le (Nat.le_refl _), List.getElem?_set_self (by omega), List.append_assoc]; rfl
    rw [e] at this
    exact this
end Go.Proofs.YtlpmfmphglgocaaGreatDoor
namespace Go.Proofs.YtlpmfmphglgocaaGreatDoor
open Go.RowKit

theorem Wn.lt_pw {w s x n c f v} (h : Wn w s x n c f v) : ((v.natAbs : Nat) : Int) < pw n := by
  have hm := h.mag
  have h1 := vf_lt hm.lm
  have h3 : vf f n = ((v.natAbs : Nat) : Int) := hm.val
  omega
/-- Numerator and denominator lie below so many limbs. -/
def Lo (K : Nat) (q : Rat) : Prop := ((q.num.natAbs : Nat) : Int) < pw K ∧ ((q.den : Nat) : Int) < pw K
theorem Lo.mono {K L q} (h : Lo K q) (hk : K ≤ L) : Lo L q := ⟨Int.lt_of_lt_of_le h.1 (pw_mono hk), Int.lt_of_lt_of_le h.2 (pw_mono hk)⟩
theorem Rn.lo {L w s x n c f y m d g q} {K : Nat} (h : Rn L w s x n c f y m d g q) (hn : n ≤ K) (hm : m ≤ K) : Lo K q :=
  ⟨Int.lt_of_lt_of_le h.num.lt_pw (pw_mono hn), Int.lt_of_lt_of_le (by have := h.den.lt_pw; simpa using this) (pw_mono hm)⟩
end Go.Proofs.YtlpmfmphglgocaaGreatDoor
namespace Go.Proofs.YtlpmfmphglgocaaGreatDoor
open Go.RowKit

end Go.Proofs.YtlpmfmphglgocaaGreatDoor
namespace Go.Proofs.YtlpmfmphglgocaaGreatDoor
open Go.RowKit

/-- The number at a column: nought where the list has none. -/
def atq (z : Int) : List (Int × Rat) → Rat
  | [] => 0
  | (a, q) :: v => if a = z then q else atq z v
end Go.Proofs.YtlpmfmphglgocaaGreatDoor
namespace Go.Proofs.YtlpmfmphglgocaaGreatDoor
open Go.RowKit

/-- The n numbers that a list of terms stands for. -/
def dense (n : Nat) (v : List (Int × Rat)) : List Rat := (List.range n).map (fun (j : Nat) => atq (j : Int) v)
end Go.Proofs.YtlpmfmphglgocaaGreatDoor
namespace Go.Proofs.YtlpmfmphglgocaaGreatDoor
open Go.RowKit

end Go.Proofs.YtlpmfmphglgocaaGreatDoor
namespace Go.Proofs.YtlpmfmphglgocaaGreatDoor
open Go.RowKit

/-- What Dense answers. -/
def OD (z : Int) (fv fb : Bool) (L : Nat) (w' : World) (ao : Option Addr) (n cap : Nat) (er : Int) (v : List (Int × Rat)) : Prop :=
  ((z < 0 ∨ 64 < z) ∧ er = 1 ∧ ao = none ∧ n = 0 ∧ cap = 0) ∨ (0 ≤ z ∧ z ≤ 64 ∧ fv = false ∧ er = 3 ∧ ao = none ∧ n = 0 ∧ cap = 0) ∨ (0 ≤ z ∧ z ≤ 64 ∧ fv = true ∧ fb = false ∧ er = 7 ∧ ao = none ∧ n = 0 ∧ cap = 0) ∨ (0 ≤ z ∧ z ≤ 64 ∧ fv = true ∧ fb = true ∧ er = 0 ∧ (n : Int) = z ∧ cap = n ∧ ao ≠ none ∧ Rf L w' ao (dense n v))

end Go.Proofs.YtlpmfmphglgocaaGreatDoor
namespace Go.Proofs.YtlpmfmphglgocaaGreatDoor
open Go.RowKit

end Go.Proofs.YtlpmfmphglgocaaGreatDoor
namespace Go.Proofs.YtlpmfmphglgocaaGreatDoor
open Go.RowKit

theorem Tf.mono {L L' w ao v} (h : Tf L w ao v) (hL : L ≤ L') : Tf L' w ao v := fun j a q hj => by
  obtain ⟨b, o, t, e, h1, h2⟩ := h j a q hj
  exact ⟨b, o, t, e, h1, h2.mono hL⟩
theorem Rf.mono {L L' w ao p} (h : Rf L w ao p) (hL : L ≤ L') : Rf L' w ao p := fun j q hj => by
  obtain ⟨b, o, t, e, h1, h2⟩ := h j q hj
  exact ⟨b, o, t, e, h1, h2.mono hL⟩

end Go.Proofs.YtlpmfmphglgocaaGreatDoor
namespace Go.Proofs.YtlpmfmphglgocaaGreatDoor
open Go.RowKit

theorem Rw.kp {w w' x n c f y m d g} (h : Rw w x n c f y m d g) (hk : Kp w w') : Rw w' x n c f y m d g := ⟨h.rx.kp hk, h.lx, h.cx, h.nx, h.ry.kp hk, h.ly, h.cy, h.ny⟩
end Go.Proofs.YtlpmfmphglgocaaGreatDoor

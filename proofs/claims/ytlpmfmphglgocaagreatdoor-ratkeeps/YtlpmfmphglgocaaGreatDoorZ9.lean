/-
  Rows of structs whose lists are spoiled before the row is told: what a row holds, and the lists themselves; the walk of law03's spoil. The walk of the reference's Twin of rat, with the owners of what it answers (written by makers/ow.py). Lists of terms in memory; the walks of package vec's isZero and Form. Lists of rational numbers in memory; the walks of package vec's allForm, allBelow, plus and times. Rows of structs that a call makes by append, none of whose cells is a limb: what stays when they are written. No Go text is named here. The walk of package vec's putter (gather's own function). Lists of terms in form, as values; the walk of package vec's merge. The walks of package vec's gather and of the call Plus, on lists in form. Lists of terms in form have values; the walk of package vec's call Plus, whatever it is handed. The walks of package vec's calls Scale and Sparse, whatever they are handed. The walk of package vec's call Sparse, whatever it is handed. The reference's Same and Sames of lists with the same values. What is known when all answers of RatKeeps lie there. append at a step of a region that draws its order, and what stays of lists about it (out of J7). A drawn region as a flow: operations that make values or new memory (calls, builds, lists that are built) in whatever order, each shown once; behind them those that must come last. No Go text is named here. A drawn region whose loads come first and whose last stores turn the very cells that were loaded: what the cells hold (S) is asked only as long as the operation k has not come up. No Go text is named here.
-/
import Derived.Test.YtlpmfmphglgocaaGreatDoorZ8
import Derived.Test.YtlpmfmphglgocaaGreatDoorZ7
import Derived.Test.YtlpmfmphglgocaaGreatDoorZ6
import Derived.BigQuiet
import Derived.Deep.RegionHeld3
import Derived.Test.YtlpmfmphglgocaaGreatDoorZ0
namespace Go.Proofs.YtlpmfmphglgocaaGreatDoor
open Go.RowKit

/-- Only the block of p, and new blocks, were written. -/
structure Ch (p : Option Addr) (w w' : World) : Prop where
  os : w'.os = w.os
  tape : w'.tape = w.tape
  output : w'.output = w.output
  size : w.heap.size ≤ w'.heap.size
  block : ∀ k, k < w.heap.size → (∀ a, p = some a → a.block ≠ k) → w'.heap[k]? = w.heap[k]?
theorem Ch.refl (p : Option Addr) (w : World) : Ch p w w := ⟨rfl, rfl, rfl, Nat.le_refl _, fun _ _ _ => rfl⟩
theorem Ch.set {p w w'} (h : Ch p w w') {a : Addr} (ha : p = some a) {j : Nat} (u : Value) : Ch p w (w'.setCell ⟨a.block, j, none⟩ u) :=
  ⟨h.os, h.tape, h.output, by simpa [World.setCell] using h.size, fun k hk hn => (Below.heap_setCell w' ⟨a.block, j, none⟩ u k (fun e => hn a ha e.symm)).trans (h.block k hk hn)⟩
theorem Ch.alloc {p w w'} (h : Ch p w w') (o : Obj) : Ch p w (w'.alloc o) :=
  ⟨h.os, h.tape, h.output, Nat.le_trans h.size (by simp), fun k hk hn => (Below.heap_alloc _ _ _ (Nat.lt_of_lt_of_le hk h.size)).trans (h.block k hk hn)⟩
theorem Ch.grown {p n c w w' w''} (h : Ch p w w') (hg : w'.grownBy w'' (Value.ownBlock (.slice p n c))) : Ch p w w'' :=
  ⟨hg.os.trans h.os, hg.tape.trans h.tape, hg.output.trans h.output, Nat.le_trans h.size hg.size, fun k hk hn => (hg.block k (Nat.lt_of_lt_of_le hk h.size) (fun e => by
    cases p with
    | none => cases e
    | some a => exact hn a rfl (by simpa [Value.ownBlock] using e.symm))).trans (h.block k hk hn)⟩
theorem Turned.ch {lo hi : Nat} {a w w' : World} {p : Option Addr} (h : Turned lo hi a w) (hc : Ch p w w') (h1 : ∀ x, p = some x → lo ≤ x.block ∧ x.block < hi ∨ a.heap.size ≤ x.block) : Turned lo hi a w' :=
  ⟨hc.os.trans h.os, hc.tape.trans h.tape, hc.output.trans h.output, Nat.le_trans h.size hc.size, fun k hk hn => (hc.block k (Nat.lt_of_lt_of_le hk h.size) (fun x hx e => by have := h1 x hx; omega)).trans (h.block k hk hn)⟩

/-- A row of structs (what it tells of its lists: R) and its lists (L), which lie in blocks of their own. -/
structure KG (E : TypeId) (pos : Nat → Nat) (O : Nat → Option Value) (N s1 s2 : Nat) (w5 w : World) (g1 : Nat) (R L : Nat → Ls) : Prop where
  tur : Turned s1 s2 w5 w
  fam : FamP E w g1 N pos O R
  own : ∀ j, j < N → Lsb .u64 28 w (L j)
  dis : ∀ j k, j < N → k < N → j ≠ k → Apart (L j).p (L k).p
  loc : ∀ j, j < N → ∀ a, (L j).p = some a → a.block ≠ g1 ∧ (s1 ≤ a.block ∧ a.block < s2 ∨ w5.heap.size ≤ a.block)
  gs : s1 ≤ g1 ∧ g1 < s2
  inj : ∀ i j, i < N → j < N → pos i = pos j → i = j
theorem KG.drewN {E pos O N s1 s2 w5 w g1 R L} (h : KG E pos O N s1 s2 w5 w g1 R L) (q : Nat) : KG E pos O N s1 s2 w5 (w.drewN q) g1 R L := ⟨h.tur.drewN q, h.fam, h.own, h.dis, h.loc, h.gs, h.inj⟩
theorem KG.drew {E pos O N s1 s2 w5 w g1 R L} (h : KG E pos O N s1 s2 w5 w g1 R L) : KG E pos O N s1 s2 w5 w.drew g1 R L := ⟨h.tur.drew, h.fam, h.own, h.dis, h.loc, h.gs, h.inj⟩
theorem KG.alloc {E pos O N s1 s2 w5 w g1 R L} (h : KG E pos O N s1 s2 w5 w g1 R L) (ob : Obj) : KG E pos O N s1 s2 w5 (w.alloc ob) g1 R L := ⟨h.tur.alloc ob, h.fam.alloc ob, fun j hj => (h.own j hj).alloc ob, h.dis, h.loc, h.gs, h.inj⟩
theorem KG.below {E pos O N s1 s2 w5 w w' g1 R L} (h : KG E pos O N s1 s2 w5 w g1 R L) (hb : Below w.heap.size w w') : KG E pos O N s1 s2 w5 w' g1 R L :=
  ⟨h.tur.below hb, h.fam.of (hb.block _ h.fam.lt), fun j hj => Own.below (h.own j hj) hb, h.dis, h.loc, h.gs, h.inj⟩
/-- The row is told of a list. -/
theorem KG.put {E pos O N s1 s2 w5 w g1 R L} (h : KG E pos O N s1 s2 w5 w g1 R L) {i : Nat} (hi : i < N) (l : Ls) : KG E pos O N s1 s2 w5 (w.setCell ⟨g1, pos i, none⟩ (.slice l.p l.n l.c)) g1 (updL R i l) L :=
  ⟨h.tur.set' (.inl h.gs) _, h.fam.set h.inj hi l, fun j hj => (h.own j hj).of (fun a ha => Below.heap_setCell _ _ _ _ (h.loc j hj a ha).1), h.dis, h.loc, h.gs, h.inj⟩
/-- A list is written, or laid anew. -/
theorem KG.turn {E pos O N s1 s2 w5 w w' g1 R L} (h : KG E pos O N s1 s2 w5 w g1 R L) {i : Nat} (hi : i < N) {l : Ls} {g : Nat} (hl : l.p = some ⟨g, 0, none⟩) (hc : Ch (L i).p w w') (hown : Lsb .u64 28 w' l) (hw : w.heap.size ≤ g ∨ (L i).p = some ⟨g, 0, none⟩) : KG E pos O N s1 s2 w5 w' g1 R (updL L i l) := by
  have hg1 := h.fam.lt
  have hgw : w5.heap.size ≤ w.heap.size := h.tur.size
  have hgg : g ≠ g1 ∧ (s1 ≤ g ∧ g < s2 ∨ w5.heap.size ≤ g) := by
    rcases hw with hw | hw
    · exact ⟨by omega, .inr (by omega)⟩
    · exact h.loc i hi _ hw
  have hap : ∀ k, k < N → k ≠ i → ∀ a, (L k).p = some a → a.block ≠ g := by
    intro k hk hki a ha
    rcases hw with hw | hw
    · have := (h.own k hk).lt a ha; omega
    · exact h.dis k i hk hi hki a _ ha hw
  refine ⟨h.tur.ch hc (fun x hx => (h.loc i hi x hx).2), h.fam.of (hc.block g1 hg1 (fun a ha => (h.loc i hi a ha).1)), fun k hk => ?_, fun a b ha hb hab => ?_, fun k hk a ha => ?_, h.gs, h.inj⟩
  · by_cases hki : k = i
    · subst hki; rw [updL_same]; exact hown
    · rw [updL_other _ _ _ _ hki]
      exact (h.own k hk).of (fun a ha => hc.block _ ((h.own k hk).lt a ha) (fun b hb e => h.dis k i hk hi hki a b ha hb e.symm))
  · by_cases hai : a = i
    · subst hai
      rw [updL_same, updL_other _ _ _ _ (fun e => hab e.symm), hl]
      intro x y hx hy
      cases hx
      exact fun e => hap b hb (fun e => hab e.symm) y hy e.symm
    · rw [updL_other _ _ _ _ hai]
      by_cases hbi : b = i
      · subst hbi
        rw [updL_same, hl]
        intro x y hx hy
        cases hy
        exact hap a ha hai x hx
      · rw [updL_other _ _ _ _ hbi]; exact h.dis a b ha hb hab
  · by_cases hki : k = i
    · subst hki
      rw [updL_same, hl] at ha
      cases ha
      exact hgg
    · rw [updL_other _ _ _ _ hki] at ha; exact h.loc k hk a ha

set_option maxRecDepth 100000 in
set_option maxHeartbeats 4000000 in
theorem spoil3_c {w : World} {p : Option Addr} {n c : Nat} {f : Nat → Int} (k : Nat) (hk : k ≤ 100) (hn : n ≤ 2000) (ho : Own .u64 28 w 0 (.slice p n c) n f) :
    Calls Tryz.prog 10 #[.slice p n c, .int .i64 k] w fun e w' => ∃ g c' f', e = .returned (.slice (some ⟨g, 0, none⟩) (n + 1) c') ∧ Ch p w w' ∧ Own .u64 28 w' 0 (.slice (some ⟨g, 0, none⟩) (n + 1) c') (n + 1) f' ∧ (w.heap.size ≤ g ∨ p = some ⟨g, 0, none⟩) ∧ f' n = 9000 + (k : Int) := by
  have HO := hid ho
  clear ho
  go_enter Tryz.func10, Tryz.ntmps10
  go_wp2_with fail
  go_loopw [8] (fun t wr => ∃ (j : Nat) (f2 : Nat → Int), j ≤ n ∧ t = .int .i64 j ∧ Hid (Ch p w wr) ∧ Hid (Own .u64 28 wr 0 (.slice p n c) n f2)) (fun t _ => n - (intOf t).toNat)
  case atStart => exact ⟨0, f, by omega, rfl, Ch.refl _ _, HO.out⟩
  case round =>
    obtain ⟨j, f2, hj, rfl, HC, HO2⟩ := hrel
    clear HO
    by_cases hjl : j < n
    · obtain ⟨gi, og, hpe⟩ := (Own.slice HO2.out).2.2.2.1.at (show 0 < n by omega)
      subst hpe
      obtain ⟨gi3, e2, _⟩ := own_at HO2.out
      cases e2
      have hcell : wr.cell? ⟨gi, j, none⟩ = some (.int .u64 (f2 j)) := by
        have := (Own.slice HO2.out).2.2.2.1.cell (j := j) hjl
        rw [Nat.zero_add] at this; exact this
      have hfz := own_frozen HO2.out j
      have i8 : ((j : Nat) : Int) < ((n : Nat) : Int) := by omega
      have HST := hid (own_set HO2.out hjl (100 * (k : Int) + (j : Int)))
      have HCT := hid (HC.out.set (a := ⟨gi, 0, none⟩) rfl (j := j) (.int .u64 (100 * (k : Int) + (j : Int))))
      clear HC HO2
      go_wp2
      go_roundw
      case rel => exact ⟨j + 1, _, by omega, by go_num, HCT.out, HST.out⟩
      case measure => simp [intOf]; omega
    · obtain rfl : n = j := by omega
      have o4 := hid (Own.alloc HO2.out (.cells #[.int .u64 (9000 + (k : Int))] 28))
      have C4 := hid (HC.out.alloc (.cells #[.int .u64 (9000 + (k : Int))] 28))
      have hs := hid HC.out.size
      clear HC HO2
      go_wp2_with (at_builtin; go_must (refine wpList_append_where .u64 _ rfl (.tmp 20) (.tmp 24) 22 rfl 0 28 8 Tryz.underlying22 Tryz.infoU64 p n c f2 rfl o4.out wr.heap.size 0 1 1 (fun _ => 9000 + (k : Int)) rfl (rd_new1 wr _ _) (by omega) (by unfold maxLen; omega) (by omega) (Nat.zero_le _) ?_))
      intro gn cn w11 hxo hgr hwh
      have hw2 : w.heap.size ≤ gn ∨ p = some ⟨gn, 0, none⟩ := by
        rcases hwh with h | h
        · left; have h1 := hs.out; omega
        · exact .inr h
      have HXO := hid hxo; have CX := hid (C4.out.grown hgr)
      clear hxo hgr hwh o4 C4
      go_wp2
      go_ret
      exact ⟨gn, cn, _, rfl, CX.out, HXO.out, hw2, by simp [cat]⟩
end Go.Proofs.YtlpmfmphglgocaaGreatDoor
namespace Go.Proofs.YtlpmfmphglgocaaGreatDoor
open Go.RowKit

set_option maxRecDepth 100000 in
set_option maxHeartbeats 8000000 in
theorem qTwin_o {w : World} {s : Bool} {x : Option Addr} {n c : Nat} {f : Nat → Int} {y : Option Addr} {m d : Nat} {g : Nat → Int} (h : Rw w x n c f y m d g) (hn : n ≤ 17592186044416) (hm : m ≤ 17592186044416) :
    Calls Tryz.prog 7 #[.agg #[.bool s, .slice x n c, .slice y m d]] w fun e w' => ∃ z c' z2 c2, e = .returned (.agg #[.bool s, .slice z n c', .slice z2 m c2]) ∧ Below w.heap.size w w' ∧ Hid (Rw w' z n c' f z2 m c2 g ∧ Own .u64 28 w' w.heap.size (.slice z n c') n f ∧ Own .u64 28 w' w.heap.size (.slice z2 m c2) m g) := by
  obtain ⟨h1, h2, h3⟩ := qbox1 (w := w) (.bool s) (.slice x n c) (.slice y m d) 24 24
  have h4 := h.below h3
  clear h
  go_enter Tryz.func7, Tryz.ntmps7
  go_wp2_with fail
  generalize (w.alloc (.cells #[.bool s, .slice x n c, .slice y m d] 24)).alloc (.cells #[.bool false, .slice none 0 0, .slice none 0 0] 24) = w1 at *
  have HN := hid h4; have OB := hid h2; have HW := hid h3
  obtain ⟨z, x0, x1, x2⟩ := h1
  obtain ⟨hz, z0, z1, z2, zf⟩ := h2
  clear h3 h4
  have C1 : Hid (∀ W, Below w1.heap.size w1 W → Calls Tryz.prog 26 #[.slice x n c] W fun e w' => ∃ z c', e = .returned (.slice z n c') ∧ Below W.heap.size W w' ∧ Hid (Own .u64 28 w' w1.heap.size (.slice z n c') n f)) := fun W hW => (twin_c x n c f W (by omega) (HN.out.below hW).rx HN.out.nx).mono (fun _ _ ⟨z, c', k1, k2, _, k4⟩ => ⟨z, c', k1, k2, k4.base hW.size⟩)
  have C2 : Hid (∀ W, Below w1.heap.size w1 W → Calls Tryz.prog 26 #[.slice y m d] W fun e w' => ∃ z c', e = .returned (.slice z m c') ∧ Below W.heap.size W w' ∧ Hid (Own .u64 28 w' w1.heap.size (.slice z m c') m g)) := fun W hW => (twin_c y m d g W (by omega) (HN.out.below hW).ry HN.out.ny).mono (fun _ _ ⟨z, c', k1, k2, _, k4⟩ => ⟨z, c', k1, k2, k4.base hW.size⟩)
  go_region_held3 (fun w' => w'.cell? ⟨w.heap.size, 0, none⟩ = some (.bool s) ∧ w'.cell? ⟨w.heap.size, 1, none⟩ = some (.slice x n c) ∧ w'.cell? ⟨w.heap.size, 2, none⟩ = some (.slice y m d) ∧ (w'.cell? ⟨w.heap.size + 1, 0, none⟩).isSome = true ∧ (w'.cell? ⟨w.heap.size + 1, 1, none⟩).isSome = true ∧ (w'.cell? ⟨w.heap.size + 1, 2, none⟩).isSome = true ∧ w'.frozen? ⟨w.heap.size + 1, 0, none⟩ = false ∧ w'.frozen? ⟨w.heap.size + 1, 1, none⟩ = false ∧ w'.frozen? ⟨w.heap.size + 1, 2, none⟩ = false)
    (refine ⟨?_, ?_, ?_, ?_, ?_, ?_, ?_, ?_, ?_⟩ <;> repeat (with_reducible first | assumption | exact zf _ | exact tf _ | exact uf _ | exact kI0 z0 | exact kI0 z1 | exact kI0 z2 | exact kI0 t0 | exact kI0 t1 | exact kI0 t2 | exact kI0 u0 | exact kI0 u1 | exact kI0 u2 | refine kCd ?_ | refine kId ?_ | refine kFd ?_ | refine kCs (by simp only [ne_eq]; omega) ?_ | refine kIs ?_ | refine kFs ?_ | refine kCb (by assumption) ?_ | refine kIb (by assumption) ?_))
    (first
      | (go_at_call 26; with_reducible refine (C1.out _ (by repeat (with_reducible first | assumption | exact Below.refl _ _ | refine Below.drew ?_ | refine kBb (by assumption) ?_))).mono ?_; rintro e v5 ⟨z5, c5, rfl, hb5, H5⟩; have Tt : Ob v5 (w.heap.size + 1) := (by repeat (with_reducible first | exact OB.out | exact Tt | exact Tu | refine Ob.drew ?_ | refine kOb (by assumption) ?_)); obtain ⟨_, t0, t1, t2, tf⟩ := id Tt)
      | (go_at_call 26; with_reducible refine (C2.out _ (by repeat (with_reducible first | assumption | exact Below.refl _ _ | refine Below.drew ?_ | refine kBb (by assumption) ?_))).mono ?_; rintro e v6 ⟨z6, c6, rfl, hb6, H6⟩; have Tu : Ob v6 (w.heap.size + 1) := (by repeat (with_reducible first | exact OB.out | exact Tt | exact Tu | refine Ob.drew ?_ | refine kOb (by assumption) ?_)); obtain ⟨_, u0, u1, u2, uf⟩ := id Tu))
  all_goals
    have D5 : Own .u64 28 v6 w1.heap.size (.slice z5 n c5) n f := H5.out.below hb6
    have D6 := H6.out
    have P5 := own_st3 (B := w.heap.size + 1) (u0 := .bool s) (u1 := .slice z5 n c5) (u2 := .slice z6 m c6) D5 hz
    have P6 := own_st3 (B := w.heap.size + 1) (u0 := .bool s) (u1 := .slice z5 n c5) (u2 := .slice z6 m c6) D6 hz
    have hb : Below w1.heap.size w1 v6 := (by repeat (with_reducible first | assumption | exact Below.refl _ _ | refine Below.drew ?_ | refine kBb (by assumption) ?_))
    go_wp2
    exact bodyPost_ret (v := .agg #[.bool s, .slice z5 n c5, .slice z6 m c6]) (by simp [results, Tryz.results7, go_sem, u0, u1, u2]) rfl ⟨z5, c5, z6, c6, rfl, below_st (HW.out.trans (hb.mono HW.out.size)) (by omega), ⟨P5.slice.2.2.2.1, HN.out.lx, ⟨P5.slice.1, P5.slice.2.1⟩, P5.slice.2.2.1, P6.slice.2.2.2.1, HN.out.ly, ⟨P6.slice.1, P6.slice.2.1⟩, P6.slice.2.2.1⟩, P5.base (by omega), P6.base (by omega)⟩

end Go.Proofs.YtlpmfmphglgocaaGreatDoor
namespace Go.Proofs.YtlpmfmphglgocaaGreatDoor
open Go.RowKit

/-- A number in memory: its sign, and where the limbs of numerator and denominator lie. -/
structure Nm where
  s : Bool
  x : Option Addr
  n : Nat
  c : Nat
  f : Nat → Int
  y : Option Addr
  m : Nat
  d : Nat
  g : Nat → Int
/-- It can be read, whatever it is, and is not too long. -/
def NmR (w : World) (t : Nm) : Prop := Rw w t.x t.n t.c t.f t.y t.m t.d t.g ∧ t.n ≤ 65536 ∧ t.m ≤ 65536
def nfB (t : Nm) : Bool := rfB t.s t.f t.n t.g t.m
theorem NmR.below {w w' t} (h : NmR w t) (hb : Below w.heap.size w w') : NmR w' t := ⟨h.1.below hb, h.2⟩
/-- Four cells from place o of block b on. -/
structure C4 (w : World) (b o : Nat) (a0 a1 a2 a3 : Value) : Prop where
  x0 : w.cell? ⟨b, o, none⟩ = some a0
  x1 : w.cell? ⟨b, o + 1, none⟩ = some a1
  x2 : w.cell? ⟨b, o + 2, none⟩ = some a2
  x3 : w.cell? ⟨b, o + 3, none⟩ = some a3
theorem C4.below {w w' b o a0 a1 a2 a3} (h : C4 w b o a0 a1 a2 a3) (hb : Below w.heap.size w w') : C4 w' b o a0 a1 a2 a3 := ⟨kCb hb h.x0, kCb hb h.x1, kCb hb h.x2, kCb hb h.x3⟩
end Go.Proofs.YtlpmfmphglgocaaGreatDoor
namespace Go.Proofs.YtlpmfmphglgocaaGreatDoor
open Go.RowKit

/-- Three cells from place o of block b on. -/
structure C3 (w : World) (b o : Nat) (a0 a1 a2 : Value) : Prop where
  x0 : w.cell? ⟨b, o, none⟩ = some a0
  x1 : w.cell? ⟨b, o + 1, none⟩ = some a1
  x2 : w.cell? ⟨b, o + 2, none⟩ = some a2
theorem C3.below {w w' b o a0 a1 a2} (h : C3 w b o a0 a1 a2) (hb : Below w.heap.size w w') : C3 w' b o a0 a1 a2 := ⟨kCb hb h.x0, kCb hb h.x1, kCb hb h.x2⟩
end Go.Proofs.YtlpmfmphglgocaaGreatDoor
namespace Go.Proofs.YtlpmfmphglgocaaGreatDoor
open Go.RowKit

/-- No cell is a limb. -/
def NoU (cur : Array Value) : Prop := ∀ (i : Nat) (z : Int), cur[i]? ≠ some (Value.int .u64 z)
/-- Nothing that holds limbs has turned; there may be new blocks. -/
structure Kp (w w' : World) : Prop where
  os : w'.os = w.os
  tape : w'.tape = w.tape
  output : w'.output = w.output
  size : w.heap.size ≤ w'.heap.size
  block : ∀ k, k < w.heap.size → w'.heap[k]? = w.heap[k]? ∨ ∃ cur t fr, w.heap[k]? = some (.cells cur t fr) ∧ NoU cur
theorem Kp.refl (w : World) : Kp w w := ⟨rfl, rfl, rfl, Nat.le_refl _, fun _ _ => .inl rfl⟩
theorem Kp.trans {a b c : World} (h : Kp a b) (k : Kp b c) : Kp a c :=
  ⟨k.os.trans h.os, k.tape.trans h.tape, k.output.trans h.output, Nat.le_trans h.size k.size, fun i hi => by
    rcases h.block i hi with e | e
    · rcases k.block i (Nat.lt_of_lt_of_le hi h.size) with e2 | ⟨cur, t, fr, e2, e3⟩
      · exact .inl (e2.trans e)
      · exact .inr ⟨cur, t, fr, e.symm.trans e2, e3⟩
    · exact .inr e⟩
theorem Kp.of_below {w w' : World} (h : Below w.heap.size w w') : Kp w w' := ⟨h.os, h.tape, h.output, h.size, fun k hk => .inl (h.block k hk)⟩
theorem Kp.drew {a w : World} (h : Kp a w) : Kp a w.drew := ⟨h.os, h.tape, h.output, h.size, h.block⟩
theorem Kp.drewN {a w : World} (h : Kp a w) (q : Nat) : Kp a (w.drewN q) := ⟨h.os, h.tape, h.output, h.size, h.block⟩
theorem Kp.alloc {a w : World} (h : Kp a w) (o : Obj) : Kp a (w.alloc o) := h.trans (Kp.of_below (below_alloc (Below.refl _ _) o))
theorem Kp.set {a w : World} (h : Kp a w) {x : Addr} {cur : Array Value} {t : TypeId} {fr : Nat × Nat} (hx : w.heap[x.block]? = some (.cells cur t fr)) (hu : NoU cur) (u : Value) : Kp a (w.setCell x u) :=
  h.trans ⟨rfl, rfl, rfl, by simp [World.setCell], fun k _ => by
    by_cases e : k = x.block
    · subst e; exact .inr ⟨cur, t, fr, hx, hu⟩
    · exact .inl (Below.heap_setCell _ _ _ _ e)⟩
theorem Rd.kp {w w' ao n f} (h : Rd .u64 w ao n f) (hk : Kp w w') : Rd .u64 w' ao n f := fun j hj => by
  obtain ⟨b, o, e, hc⟩ := h j hj
  refine ⟨b, o, e, ?_⟩
  have hl := World.block_lt_of_cell? w _ hc
  rcases hk.block b hl with h1 | ⟨cur, t, fr, h1, h2⟩
  · exact (World.cell?_of_block (a := ⟨b, o + j, none⟩) h1).trans hc
  · exfalso
    simp [World.cell?, h1] at hc
    exact h2 _ _ hc
theorem Wn.kp {w w' s x n c f v} (h : Wn w s x n c f v) (hk : Kp w w') : Wn w' s x n c f v := ⟨h.rd.kp hk, h.lm, h.wf, h.cap, h.nil, h.val⟩
theorem Rn.kp {L w w' s x n c f y m d g q} (h : Rn L w s x n c f y m d g q) (hk : Kp w w') : Rn L w' s x n c f y m d g q := ⟨h.num.kp hk, h.den.kp hk, h.ln, h.ld⟩

end Go.Proofs.YtlpmfmphglgocaaGreatDoor
namespace Go.Proofs.YtlpmfmphglgocaaGreatDoor
open Go.RowKit

end Go.Proofs.YtlpmfmphglgocaaGreatDoor
namespace Go.Proofs.YtlpmfmphglgocaaGreatDoor
open Go.RowKit

/-- A list of terms that reads as v, numbers in form of at most L limbs. -/
def Tf (L : Nat) (w : World) (ao : Option Addr) (v : List (Int × Rat)) : Prop :=
  ∀ (j : Nat) (a : Int) (q : Rat), v[j]? = some (a, q) → ∃ b o, ∃ t : Nm, ao = some ⟨b, o, none⟩ ∧ C4 w b (o + j * 4) (.int .i64 a) (.bool t.s) (.slice t.x t.n t.c) (.slice t.y t.m t.d) ∧ Rn L w t.s t.x t.n t.c t.f t.y t.m t.d t.g q
theorem Tf.below {L w w' ao v} (h : Tf L w ao v) (hb : Below w.heap.size w w') : Tf L w' ao v := fun j a q hj => by
  obtain ⟨b, o, t, e, h1, h2⟩ := h j a q hj
  exact ⟨b, o, t, e, h1.below hb, h2.below hb⟩
theorem Tf.nil (L : Nat) (w : World) (ao : Option Addr) : Tf L w ao [] := fun j a q h => by simp at h
end Go.Proofs.YtlpmfmphglgocaaGreatDoor
namespace Go.Proofs.YtlpmfmphglgocaaGreatDoor
open Go.RowKit

end Go.Proofs.YtlpmfmphglgocaaGreatDoor
namespace Go.Proofs.YtlpmfmphglgocaaGreatDoor
open Go.RowKit

theorem Nm.rn {w : World} {t : Nm} {L : Nat} (h : NmR w t) (hf : nfB t = true) (hn : t.n ≤ L) (hm : t.m ≤ L) : ∃ q, Rn L w t.s t.x t.n t.c t.f t.y t.m t.d t.g q := h.1.rn hf hn hm
end Go.Proofs.YtlpmfmphglgocaaGreatDoor
namespace Go.Proofs.YtlpmfmphglgocaaGreatDoor
open Go.RowKit

end Go.Proofs.YtlpmfmphglgocaaGreatDoor
namespace Go.Proofs.YtlpmfmphglgocaaGreatDoor
open Go.RowKit

/-- What Sparse answers. -/
def OS (k : Nat) (pf : Bool) (L : Nat) (w' : World) (ao : Option Addr) (n cap : Nat) (er : Int) (vs : List (Int × Rat)) : Prop :=
  64 < k ∧ er = 2 ∧ ao = none ∧ n = 0 ∧ cap = 0 ∨ k ≤ 64 ∧ pf = false ∧ er = 3 ∧ ao = none ∧ n = 0 ∧ cap = 0 ∨ k ≤ 64 ∧ pf = true ∧ er = 0 ∧ n = vs.length ∧ vs.length ≤ cap ∧ cap ≤ 9223372036854775807 ∧ (ao = none → vs = [] ∧ cap = 0) ∧ Tf L w' ao vs

end Go.Proofs.YtlpmfmphglgocaaGreatDoor
namespace Go.Proofs.YtlpmfmphglgocaaGreatDoor
open Go.RowKit

theorem rSameEq_c {L L' w sa xa na ca fa ya ma da ga sb xb nb cb fb yb mb db gb q} (ha : Rn L w sa xa na ca fa ya ma da ga q) (hb : Rn L' w sb xb nb cb fb yb mb db gb q) (h1 : L ≤ 1048576) (h2 : L' ≤ 1048576) :
    Calls Tryz.prog 9 #[.agg #[.bool sa, .slice xa na ca, .slice ya ma da], .agg #[.bool sb, .slice xb nb cb, .slice yb mb db]] w fun e w' => e = .returned (.bool true) ∧ Below w.heap.size w w' := by
  have l1 := ha.ln; have l2 := ha.ld; have l3 := hb.ln; have l4 := hb.ld
  refine (rSame_c sa xa ya na ca ma da fa ga sb xb yb nb cb mb db fb gb w ha.num.rd ha.den.rd hb.num.rd hb.den.rd (by omega) (by omega) (by omega) (by omega)).mono ?_
  rintro e w' ⟨c, rfl, h3, h4⟩
  refine ⟨?_, h3⟩
  rw [h4.2 ((ha.inj hb).2 rfl)]

end Go.Proofs.YtlpmfmphglgocaaGreatDoor
namespace Go.Proofs.YtlpmfmphglgocaaGreatDoor
open Go.RowKit

theorem RvQ.rn {w s l k q} (h : RvQ s l k (some q)) (h1 : Lsb .u64 28 w l) (h2 : Lsb .u64 28 w k) : Rn 2000 w s l.p l.n l.c l.f k.p k.n k.c k.f q := by
  obtain ⟨⟨a1, a2⟩, a3, a4⟩ := h.some' q rfl
  have e1 := Own.slice h1; have e2 := Own.slice h2
  exact ⟨⟨e1.2.2.2.1, h.lm.1, a1, ⟨e1.1, e1.2.1⟩, e1.2.2.1, a2⟩, ⟨e2.2.2.2.1, h.lm.2, a3, ⟨e2.1, e2.2.1⟩, e2.2.2.1, a4⟩, h.le.1, h.le.2⟩
/-- Answers to one question are alike. -/
theorem rvq_same {w : World} {s t : Bool} {l k l' k' : Ls} {v : Option Rat} (h : RvQ s l k v) (h' : RvQ t l' k' v) (o1 : Lsb .u64 28 w l) (o2 : Lsb .u64 28 w k) (o3 : Lsb .u64 28 w l') (o4 : Lsb .u64 28 w k') :
    Calls Tryz.prog 9 #[.agg #[.bool s, .slice l.p l.n l.c, .slice k.p k.n k.c], .agg #[.bool t, .slice l'.p l'.n l'.c, .slice k'.p k'.n k'.c]] w fun e w' => e = .returned (.bool true) ∧ Below w.heap.size w w' := by
  cases v with
  | none =>
    obtain ⟨a1, a2, a3⟩ := h.no rfl
    obtain ⟨b1, b2, b3⟩ := h'.no rfl
    have e1 := h.le; have e2 := h'.le
    refine (rSame_c s l.p k.p l.n l.c k.n k.c l.f k.f t l'.p k'.p l'.n l'.c k'.n k'.c l'.f k'.f w o1.rd o2.rd o3.rd o4.rd (by omega) (by omega) (by omega) (by omega)).mono ?_
    rintro e w' ⟨b, rfl, hb, hc⟩
    have : b = true := hc.2 ⟨by rw [a1, b1], ⟨by rw [a2, b2], fun j hj => by omega⟩, by rw [a3, b3], fun j hj => by omega⟩
    subst this
    exact ⟨rfl, hb⟩
  | some q => exact rSameEq_c (h.rn o1 o2) (h'.rn o3 o4) (by omega) (by omega)
theorem rSame_self {w : World} {s : Bool} {x y : Option Addr} {n c m d : Nat} {f g : Nat → Int} {x' y' : Option Addr} {c' d' : Nat} (h1 : Rd .u64 w x n f) (h2 : Rd .u64 w y m g) (h3 : Rd .u64 w x' n f) (h4 : Rd .u64 w y' m g) (hn : n ≤ 1000) (hm : m ≤ 1000) :
    Calls Tryz.prog 9 #[.agg #[.bool s, .slice x n c, .slice y m d], .agg #[.bool s, .slice x' n c', .slice y' m d']] w fun e w' => e = .returned (.bool true) ∧ Below w.heap.size w w' := by
  refine (rSame_c s x y n c m d f g s x' y' n c' m d' f g w h1 h2 h3 h4 (by omega) (by omega) (by omega) (by omega)).mono ?_
  rintro e w' ⟨b, rfl, hb, hc⟩
  have : b = true := hc.2 ⟨rfl, ⟨rfl, fun _ _ => rfl⟩, rfl, fun _ _ => rfl⟩
  subst this
  exact ⟨rfl, hb⟩
theorem cat_rd9 {w : World} {g n c : Nat} {f : Nat → Int} {x : Int} (h : Own .u64 28 w 0 (.slice (some ⟨g, 0, none⟩) (n + 1) c) (n + 1) (cat f n (fun _ => x))) :
    Rd .u64 w (some ⟨g, 0, none⟩) n f ∧ w.cell? ⟨g, n, none⟩ = some (.int .u64 x) ∧ n + 1 ≤ c ∧ c ≤ 9223372036854775807 := by
  have hr := (Own.slice h).2.2.2.1
  refine ⟨(hr.take (m := n) (by omega)).congr (fun j hj => cat_in hj), ?_, (Own.slice h).1, (Own.slice h).2.1⟩
  have := hr.cell (j := n) (by omega)
  rw [Nat.zero_add, cat_out (Nat.le_refl _)] at this
  exact this
/-- What lies ahead of the answers. -/
structure In9 (w : World) (B : Nat) (a b z : Nm) (gA cA gD cD b7 b8 : Nat) : Prop where
  ra : Rw w a.x a.n a.c a.f a.y a.m a.d a.g
  rb : Rw w b.x b.n b.c b.f b.y b.m b.d b.g
  ba : Bx3 w B (.bool a.s) (.slice a.x a.n a.c) (.slice a.y a.m a.d)
  bb : Bx3 w (B + 1) (.bool b.s) (.slice b.x b.n b.c) (.slice b.y b.m b.d)
  xa : Own .u64 28 w 0 (.slice (some ⟨gA, 0, none⟩) (a.n + 1) cA) (a.n + 1) (cat a.f a.n (fun _ => 71))
  xd : Own .u64 28 w 0 (.slice (some ⟨gD, 0, none⟩) (a.m + 1) cD) (a.m + 1) (cat a.g a.m (fun _ => 72))
  bx : Bx3 w b7 (.bool a.s) (.slice (some ⟨gA, 0, none⟩) a.n cA) (.slice (some ⟨gD, 0, none⟩) a.m cD)
  bz : Bx3 w b8 (.bool b.s) (.slice z.x b.n z.c) (.slice z.y b.m z.d)
  rz : Rw w z.x b.n z.c b.f z.y b.m z.d b.g
theorem In9.below {w w' B a b z gA cA gD cD b7 b8} (I : In9 w B a b z gA cA gD cD b7 b8) (hb : Below w.heap.size w w') : In9 w' B a b z gA cA gD cD b7 b8 :=
  ⟨I.ra.below hb, I.rb.below hb, I.ba.below hb, I.bb.below hb, Own.below I.xa hb, Own.below I.xd hb, I.bx.below hb, I.bz.below hb, I.rz.below hb⟩
/-- The twin of the first, with room behind it. -/
theorem In9.rx {w B a b z gA cA gD cD b7 b8} (I : In9 w B a b z gA cA gD cD b7 b8) : Rw w (some ⟨gA, 0, none⟩) a.n cA a.f (some ⟨gD, 0, none⟩) a.m cD a.g := by
  have h1 := cat_rd9 I.xa; have h2 := cat_rd9 I.xd
  exact ⟨h1.1, I.ra.lx, ⟨by have := h1.2.2.1; omega, h1.2.2.2⟩, (fun h => by cases h), h2.1, I.ra.ly, ⟨by have := h2.2.2.1; omega, h2.2.2.2⟩, (fun h => by cases h)⟩
/-- A row of numbers that stands. -/
structure StR (w : World) (g : Nat) (S : Nat → Bool) (L : Nat → Ls) : Prop where
  fam : FamP 24 w g 16 posR (othR S) L
  own : ∀ j, j < 16 → Lsb .u64 28 w (L j)
theorem AnsR.st {w w' g S L V} (h : AnsR w w' g S L V) : StR w' g S L := ⟨h.fam, h.up.own⟩
theorem StR.below {w w' g S L} (h : StR w g S L) (hb : Below w.heap.size w w') : StR w' g S L := ⟨h.fam.of (hb.block g h.fam.lt), fun j hj => Own.below (h.own j hj) hb⟩
theorem StR.turned {lo hi w w' g S L} (h : StR w g S L) (ht : Turned lo hi w w') (hg : g < lo ∨ hi ≤ g) (hl : ∀ j, j < 16 → ∀ a, (L j).p = some a → a.block < lo ∨ hi ≤ a.block) : StR w' g S L :=
  ⟨h.fam.of (ht.block g h.fam.lt hg), fun j hj => (h.own j hj).of (fun a ha => ht.block _ ((h.own j hj).lt a ha) (hl j hj a ha))⟩
theorem fam_cells9 {w : World} {g : Nat} {S : Nat → Bool} {L : Nat → Ls} (h : FamP 24 w g 16 posR (othR S) L) {i : Nat} (hi : i < 8) : w.cell? ⟨g, i * 3, none⟩ = some (.bool (S i)) ∧ w.cell? ⟨g, i * 3 + 1, none⟩ = some (.slice (L (2 * i)).p (L (2 * i)).n (L (2 * i)).c) ∧ w.cell? ⟨g, i * 3 + 2, none⟩ = some (.slice (L (2 * i + 1)).p (L (2 * i + 1)).n (L (2 * i + 1)).c) := by
  refine ⟨?_, ?_, ?_⟩
  · have := h.other (t := i * 3) (fun j _ e => by unfold posR at e; omega)
    rw [this]
    unfold othR
    rw [if_pos (by omega), show i * 3 / 3 = i by omega]
  · have := h.cell (j := 2 * i) (by omega)
    rw [show posR (2 * i) = i * 3 + 1 by unfold posR; omega] at this
    exact this
  · have := h.cell (j := 2 * i + 1) (by omega)
    rw [show posR (2 * i + 1) = i * 3 + 2 by unfold posR; omega] at this
    exact this
/-- What is known when all answers lie there. -/
structure All9 (w4 w6 w7 w8 : World) (B : Nat) (a b z : Nm) (gA cA gD cD b7 b8 g1 g2 g3 : Nat) (S1 S2 S3 : Nat → Bool) (one two want : Nat → Ls) (V : Nat → Option Rat) : Prop where
  in0 : In9 w4 B a b z gA cA gD cD b7 b8
  b48 : Below w4.heap.size w4 w8
  s12 : w4.heap.size ≤ w6.heap.size
  s23 : w6.heap.size ≤ w7.heap.size
  s34 : w7.heap.size ≤ w8.heap.size
  st1 : StR w8 g1 S1 one
  st2 : StR w8 g2 S2 two
  st3 : StR w8 g3 S3 want
  d1 : ∀ j k, j < 16 → k < 16 → j ≠ k → Apart (one j).p (one k).p
  d2 : ∀ j k, j < 16 → k < 16 → j ≠ k → Apart (two j).p (two k).p
  l1 : ∀ j, j < 16 → ∀ a, (one j).p = some a → a.block ≠ g1 ∧ (w4.heap.size ≤ a.block ∧ a.block < w6.heap.size)
  l2 : ∀ j, j < 16 → ∀ a, (two j).p = some a → a.block ≠ g2 ∧ (w6.heap.size ≤ a.block ∧ a.block < w7.heap.size)
  l3 : ∀ j, j < 16 → ∀ a, (want j).p = some a → w7.heap.size ≤ a.block
  g1s : w4.heap.size ≤ g1 ∧ g1 < w6.heap.size
  g2s : w6.heap.size ≤ g2 ∧ g2 < w7.heap.size
  g3s : w7.heap.size ≤ g3
  v1 : ∀ j, j < 8 → RvQ (S1 j) (one (2 * j)) (one (2 * j + 1)) (V j)
  v2 : ∀ j, j < 8 → RvQ (S2 j) (two (2 * j)) (two (2 * j + 1)) (V j)
  v3 : ∀ j, j < 8 → RvQ (S3 j) (want (2 * j)) (want (2 * j + 1)) (V j)
theorem all9_mk {w4 : World} {w6 : World} {w7 : World} {wt : World} {w8 : World} {B : Nat} {a : Nm} {b : Nm} {z : Nm} {gA : Nat} {cA : Nat} {gD : Nat} {cD : Nat} {b7 : Nat} {b8 : Nat} {g1 : Nat} {g2 : Nat} {g3 : Nat} {S1 : Nat → Bool} {S2 : Nat → Bool} {S3 : Nat → Bool} {one : Nat → Ls} {two : Nat → Ls} {want : Nat → Ls} {V : Nat → Option Rat} (I : In9 w4 B a b z gA cA gD cD b7 b8) (a1 : AnsR w4 w6 g1 S1 one V) (a2 : AnsR w6 w7 g2 S2 two V) (ht : Below w7.heap.size w7 wt) (a3 : AnsR wt w8 g3 S3 want V) : All9 w4 w6 w7 w8 B a b z gA cA gD cD b7 b8 g1 g2 g3 S1 S2 S3 one two want V := by
  have c7 : Below w7.heap.size w7 w8 := ht.trans (a3.bel.mono ht.size)
  have c6 : Below w6.heap.size w6 w8 := a2.bel.trans (c7.mono a2.bel.size)
  have c4 : Below w4.heap.size w4 w8 := a1.bel.trans (c6.mono a1.bel.size)
  exact ⟨I, c4, a1.bel.size, a2.bel.size, c7.size, a1.st.below c6, a2.st.below c7, a3.st, a1.up.dis, a2.up.dis,
    fun j hj x hx => ⟨a1.ng j hj x hx, a1.up.loc j hj x hx, (a1.up.own j hj).lt x hx⟩, fun j hj x hx => ⟨a2.ng j hj x hx, a2.up.loc j hj x hx, (a2.up.own j hj).lt x hx⟩,
    fun j hj x hx => Nat.le_trans ht.size (a3.up.loc j hj x hx), ⟨a1.gs, a1.fam.lt⟩, ⟨a2.gs, a2.fam.lt⟩, Nat.le_trans ht.size a3.gs, a1.up.val, a2.up.val, a3.up.val⟩
theorem All9.k1 {w4 : World} {w6 : World} {w7 : World} {w8 : World} {B : Nat} {a : Nm} {b : Nm} {z : Nm} {gA : Nat} {cA : Nat} {gD : Nat} {cD : Nat} {b7 : Nat} {b8 : Nat} {g1 : Nat} {g2 : Nat} {g3 : Nat} {S1 : Nat → Bool} {S2 : Nat → Bool} {S3 : Nat → Bool} {one : Nat → Ls} {two : Nat → Ls} {want : Nat → Ls} {V : Nat → Option Rat} (A : All9 w4 w6 w7 w8 B a b z gA cA gD cD b7 b8 g1 g2 g3 S1 S2 S3 one two want V) : KG 24 posR (othR S1) 16 w4.heap.size w6.heap.size w8 w8 g1 one one :=
  ⟨Turned.refl _ _ _, A.st1.fam, A.st1.own, A.d1, fun j hj x hx => ⟨(A.l1 j hj x hx).1, .inl (A.l1 j hj x hx).2⟩, A.g1s, posR_inj⟩
/-- In the first round the other rows stand. -/
theorem All9.t1 {w4 : World} {w6 : World} {w7 : World} {w8 : World} {w : World} {B : Nat} {a : Nm} {b : Nm} {z : Nm} {gA : Nat} {cA : Nat} {gD : Nat} {cD : Nat} {b7 : Nat} {b8 : Nat} {g1 : Nat} {g2 : Nat} {g3 : Nat} {S1 : Nat → Bool} {S2 : Nat → Bool} {S3 : Nat → Bool} {one : Nat → Ls} {two : Nat → Ls} {want : Nat → Ls} {V : Nat → Option Rat} (A : All9 w4 w6 w7 w8 B a b z gA cA gD cD b7 b8 g1 g2 g3 S1 S2 S3 one two want V) (ht : Turned w4.heap.size w6.heap.size w8 w) : StR w g2 S2 two ∧ StR w g3 S3 want ∧ In9 w B a b z gA cA gD cD b7 b8 := by
  have h1 := A.s12; have h2 := A.s23; have h3 := A.s34; have hg2 := A.g2s; have hg3 := A.g3s
  exact ⟨A.st2.turned ht (.inr hg2.1) (fun j hj a ha => .inr (A.l2 j hj a ha).2.1), A.st3.turned ht (.inr (by omega)) (fun j hj a ha => .inr (by have := A.l3 j hj a ha; omega)), A.in0.below (A.b48.trans (ht.bel (Nat.le_refl _) (by omega)))⟩
theorem All9.k2 {w4 : World} {w6 : World} {w7 : World} {w8 : World} {w : World} {B : Nat} {a : Nm} {b : Nm} {z : Nm} {gA : Nat} {cA : Nat} {gD : Nat} {cD : Nat} {b7 : Nat} {b8 : Nat} {g1 : Nat} {g2 : Nat} {g3 : Nat} {S1 : Nat → Bool} {S2 : Nat → Bool} {S3 : Nat → Bool} {one : Nat → Ls} {two : Nat → Ls} {want : Nat → Ls} {V : Nat → Option Rat} (A : All9 w4 w6 w7 w8 B a b z gA cA gD cD b7 b8 g1 g2 g3 S1 S2 S3 one two want V) (ht : Turned w4.heap.size w6.heap.size w8 w) : KG 24 posR (othR S2) 16 w6.heap.size w7.heap.size w w g2 two two := by
  obtain ⟨s2, s3, i4⟩ := A.t1 ht
  exact ⟨Turned.refl _ _ _, s2.fam, s2.own, A.d2, fun j hj x hx => ⟨(A.l2 j hj x hx).1, .inl (A.l2 j hj x hx).2⟩, A.g2s, posR_inj⟩
/-- In the second round the third row and what was spoiled stand. -/
theorem All9.t2 {w4 : World} {w6 : World} {w7 : World} {w8 : World} {w10 : World} {w : World} {B : Nat} {a : Nm} {b : Nm} {z : Nm} {gA : Nat} {cA : Nat} {gD : Nat} {cD : Nat} {b7 : Nat} {b8 : Nat} {g1 : Nat} {g2 : Nat} {g3 : Nat} {S1 : Nat → Bool} {S2 : Nat → Bool} {S3 : Nat → Bool} {one : Nat → Ls} {two : Nat → Ls} {want : Nat → Ls} {L : Nat → Ls} {V : Nat → Option Rat} (A : All9 w4 w6 w7 w8 B a b z gA cA gD cD b7 b8 g1 g2 g3 S1 S2 S3 one two want V) (k1 : KG 24 posR (othR S1) 16 w4.heap.size w6.heap.size w8 w10 g1 L L) (ht : Turned w6.heap.size w7.heap.size w10 w) :
    StR w g1 S1 L ∧ StR w g3 S3 want ∧ In9 w B a b z gA cA gD cD b7 b8 ∧ Below w4.heap.size w8 w := by
  have h1 := A.s12; have h2 := A.s23; have h3 := A.s34; have hg2 := A.g2s; have hg3 := A.g3s; have hg1 := A.g1s
  obtain ⟨s2, s3, i4⟩ := A.t1 k1.tur
  have h5 := k1.tur.size
  refine ⟨StR.turned ⟨k1.fam, k1.own⟩ ht (.inl hg1.2) (fun j hj x hx => ?_), s3.turned ht (.inr hg3) (fun j hj x hx => .inr (A.l3 j hj x hx)), A.in0.below (A.b48.trans ((k1.tur.bel (Nat.le_refl _) (by omega)).trans (ht.bel h1 (by omega)))), (k1.tur.bel (Nat.le_refl _) (by omega)).trans (ht.bel h1 (by omega))⟩
  have := (k1.loc j hj x hx).2; omega
/-- A list that was spoiled. -/
def Sp9 (k : Nat) (l : Ls) : Prop := 0 < l.n ∧ l.n ≤ 4096 ∧ l.f (l.n - 1) = 9000 + (k : Int)
end Go.Proofs.YtlpmfmphglgocaaGreatDoor
namespace Go.Proofs.YtlpmfmphglgocaaGreatDoor
open Go.RowKit

/-- The same at a step of a region that draws its order. -/
theorem step_append_where {P : Program} (k : IntKind) (w : World) {ops : Array Oper} {o : Oper} {a : Act} {K : Act → World → Prop} {Q : Exit → Act → World → Prop} {E : Prop} (hgd : o.guard = none) (s x : Operand) (t : TypeId)
    (ho : o.op = .call { callee := .builtin .append, args := #[s, x], argTypes := #[t, t] })
    (base : Nat) (e : TypeId) (bytes : Nat) (ht : P.underlying t = some (.slice e)) (h2 : (P.info? e).map (fun i => (i.zero, i.size, i.bytes)) = some (some (.int k 0), 1, bytes))
    (ao : Option Addr) (n cap : Nat) (f : Nat → Int) (hs : a.eval s = .slice ao n cap) (hown : Own k e w base (.slice ao n cap) n f)
    (b ob m c : Nat) (h : Nat → Int) (hx : a.eval x = .slice (some ⟨b, ob, none⟩) m c) (hr : Rd k w (some ⟨b, ob, none⟩) m h) (hm0 : 0 < m)
    (h63 : n + m ≤ maxLen) (hbytes : (n + m) * bytes ≤ 140737488355328) (hbase : base ≤ w.heap.size) (H : Nat) (hH : w.heap.size = H)
    (hK : ∀ g cap' w', Own k e w' base (.slice (some ⟨g, 0, none⟩) (n + m) cap') (n + m) (cat f n h) → w.grownBy w' (Value.ownBlock (.slice ao n cap)) → (g = H ∨ ao = some ⟨g, 0, none⟩) → K (a.put o.dst (.slice (some ⟨g, 0, none⟩) (n + m) cap')) w') : if Region.wanted o (yielded ops a.tmps) = true then Oper.wp P o a w K Q else E := by
  subst hH
  obtain ⟨i, hi, hz0, hz1, hz2⟩ := info_parts h2
  subst hz2
  have hl : (lst k h m).length = m * 1 := by rw [lst_length, Nat.mul_one]
  have hnews : ∀ j u, (lst k h m)[j]? = some u → w.cell? ((⟨b, ob, none⟩ : Addr).add j) = some u := by
    intro j u hu
    obtain ⟨hj, rfl⟩ := lst_getE hu
    have := hr.cell hj
    rw [addr_add]; exact this
  obtain ⟨v', w', hrun, h1', h2', h3'⟩ := run_append_own (P := P) w base t o.type e i (.int k 0) 1 i.bytes ht hi hz0 hz1 rfl rfl (by decide) (.slice ao n cap) n (lst k f n) hown ⟨b, ob, none⟩ m c (lst k h m) hl hnews (lst_one k h m) h63 hbytes hbase
  have hw : ∃ g cap', v' = .slice (some ⟨g, 0, none⟩) (n + m) cap' ∧ (g = w.heap.size ∨ ao = some ⟨g, 0, none⟩) := by
    have hlz : (lst k h m).length = m * i.size := by rw [hz1]; exact hl
    have hsm : n + m ≤ 9223372036854775807 := by unfold maxLen at h63; omega
    rcases hown.2 with ⟨hv, rfl⟩ | ⟨g, cap2, cur, hv, hbg, hg, hnc, hcm, hcs, htake⟩
    · cases hv
      have e1 := run_append_nil (P := P) w t o.type e i (.int k 0) ht hi hz0 ⟨b, ob, none⟩ m c (lst k h m) hlz hnews hm0 (by omega) (by rw [Nat.zero_add] at hbytes; omega)
      rw [e1] at hrun
      injection hrun with e2 e3
      exact ⟨_, _, by rw [← e2, Nat.zero_add], .inl rfl⟩
    · cases hv
      by_cases hroom : n + m ≤ cap
      · have e1 := run_append_room (P := P) w t o.type e i ht hi g n cap cur hg ⟨b, ob, none⟩ m c (lst k h m) hlz hnews (lst_one k h m) hroom (by rw [lst_length, hcs, hz1]; omega)
        rw [e1] at hrun
        injection hrun with e2 e3
        exact ⟨_, _, e2.symm, .inr rfl⟩
      · have holds : ∀ j u, (lst k f n)[j]? = some u → w.cell? ((⟨g, 0, none⟩ : Addr).add j) = some u := World.ownsRow.cells hown (g := g) rfl
        have e1 := run_append_grow (P := P) w t o.type e i (.int k 0) ht hi hz0 ⟨g, 0, none⟩ n cap (lst k f n) (by rw [lst_length, hz1]; omega) holds ⟨b, ob, none⟩ m c (lst k h m) hlz hnews (by omega) (by omega) (growslice_fits (by omega) hbytes)
        rw [e1] at hrun
        injection hrun with e2 e3
        exact ⟨_, _, e2.symm, .inl rfl⟩
  obtain ⟨g, cap', rfl, hg⟩ := hw
  rw [lst_cat] at h1'
  have hwt : Region.wanted o (yielded ops a.tmps) = true := by simp [Region.wanted, hgd]
  rw [if_pos hwt]
  unfold Oper.wp execOp
  simp only [ho, resolve, invoke, builtin, Sem.run_bind, Sem.run_pure, Result.andThen_ok, List.map_toArray, List.map_cons, List.map_nil, hs, hx, hrun]
  exact hK g cap' w' h1' h2' hg

theorem kOwb {w w' : World} {base n : Nat} {v : Value} {f : Nat → Int} (hb : Below w.heap.size w w') (h : Own .u64 28 w base v n f) : Own .u64 28 w' base v n f := h.below hb
theorem kOwa {w : World} {base n : Nat} {v : Value} {f : Nat → Int} {o : Obj} (h : Own .u64 28 w base v n f) : Own .u64 28 (w.alloc o) base v n f := Own.alloc h o
theorem kOwd {w : World} {base n : Nat} {v : Value} {f : Nat → Int} (h : Own .u64 28 w base v n f) : Own .u64 28 w.drew base v n f := h
theorem kOg {w w' : World} {base n c g : Nat} {f : Nat → Int} {tb : Option Addr} {m tcb : Nat} (hg : w.grownBy w' (Value.ownBlock (.slice tb m tcb))) (hne : ∀ a, tb = some a → a.block ≠ g) (h : Own .u64 28 w base (.slice (some ⟨g, 0, none⟩) n c) n f) : Own .u64 28 w' base (.slice (some ⟨g, 0, none⟩) n c) n f := by
  refine Own.of h (fun a ha => ?_)
  cases ha
  obtain ⟨g', e1, hl⟩ := own_at h
  cases e1
  refine hg.block _ hl (fun e2 => ?_)
  cases tb with
  | none => cases e2
  | some a => exact hne a rfl (by simpa [Value.ownBlock] using e2.symm)
theorem kRg {w w' : World} {g n : Nat} {f : Nat → Int} {tb : Option Addr} {m tcb : Nat} (hg : w.grownBy w' (Value.ownBlock (.slice tb m tcb))) (hne : ∀ a, tb = some a → a.block ≠ g) (h : Rd .u64 w (some ⟨g, 0, none⟩) n f) : Rd .u64 w' (some ⟨g, 0, none⟩) n f := fun j hj => by
  obtain ⟨b, o, e, hc⟩ := h j hj
  cases e
  refine ⟨g, 0, rfl, hg.cell hc (fun e2 => ?_)⟩
  cases tb with
  | none => cases e2
  | some a => exact hne a rfl (by simpa [Value.ownBlock] using e2.symm)
theorem rd_newE {w : World} {B : Nat} {e : TypeId} {x : Int} (h : B = w.heap.size) : Rd .u64 (w.alloc (.cells #[.int .u64 x] e)) (some ⟨B, 0, none⟩) 1 (fun _ => x) := by subst h; exact rd_new1 w e x
theorem szb {w2 W : World} (h : Below w2.heap.size w2 W) : w2.heap.size ≤ W.heap.size := h.size
theorem below_app {w2 w w' : World} {x : Option Addr} {n c : Nat} {f : Nat → Int} (hb : Below w2.heap.size w2 w) (ho : Own .u64 28 w w2.heap.size (.slice x n c) n f) (hg : w.grownBy w' (Value.ownBlock (.slice x n c))) : Below w2.heap.size w2 w' := hb.grown hg hb.size (fun k hk => Own.ge ho k hk)
end Go.Proofs.YtlpmfmphglgocaaGreatDoor
namespace Go.Proofs.YtlpmfmphglgocaaGreatDoor
open Go.RowKit

/-- The operations that operation i waits for. -/
def depsOf (md : Region.Mode) (ops : Array Oper) (i : Nat) : List Nat := match ops[i]? with
  | none => []
  | some o => (o.after.toList.filter (Region.binds md)).map (·.on)
theorem mem_deps {md : Region.Mode} {ops : Array Oper} {i j : Nat} : j ∈ depsOf md ops i ↔ ∃ o, ops[i]? = some o ∧ ∃ e, e ∈ o.after ∧ Region.binds md e = true ∧ e.on = j := by
  unfold depsOf
  cases h : ops[i]? with
  | none => simp
  | some o => simp [and_assoc]
/-- How many of F are not listed. -/
def left (listed : Array Bool) : List Nat → Nat
  | [] => 0
  | x :: F => (if listed.getD x false = true then 0 else 1) + left listed F
end Go.Proofs.YtlpmfmphglgocaaGreatDoor
namespace Go.Proofs.YtlpmfmphglgocaaGreatDoor
open Go.RowKit

/-- Whatever order is picked from here on, and S holds behind every operation as long as k has not come up. -/
def wpAnyP (P : Program) (md : Region.Mode) (ops : Array Oper) (Q : Exit → Act → World → Prop) (S : World → Prop) (k : Nat) : Nat → Array Bool → Act → World → Prop
  | 0, listed, a, w => Region.ready md ops listed = [] ∧ Q .normal a w
  | fuel + 1, listed, a, w =>
    (Region.ready md ops listed = [] → Q .normal a w) ∧
    ∀ i ∈ Region.ready md ops listed, wpOp P ops Q i (fun a' w' => ((listed.setIfInBounds i true).getD k true = false → S w') ∧ wpAnyP P md ops Q S k fuel (listed.setIfInBounds i true) a' w') a w
theorem wpAny_of_phase {P : Program} {ops : Array Oper} {Q : Exit → Act → World → Prop} {md : Region.Mode} {S : World → Prop} {k : Nat} : ∀ (fuel : Nat) (listed : Array Bool) (a : Act) (w : World), wpAnyP P md ops Q S k fuel listed a w → wpAny P md ops Q fuel listed a w
  | 0, _, _, _, h => h
  | fuel + 1, _, _, _, h => ⟨h.1, fun i hi => wpOp_mono (fun a' w' h' => wpAny_of_phase fuel _ a' w' h'.2) (h.2 i hi)⟩
theorem ready_waits {ops : Array Oper} {md : Region.Mode} {listed : Array Bool} {i j : Nat} (hi : i ∈ Region.ready md ops listed) (hj : j ∈ Region.ready md ops listed) (hd : i ∈ depsOf md ops j) : False := by
  obtain ⟨oj, hoj, e, he, hb, rfl⟩ := mem_deps.1 hd
  obtain ⟨_, oj', hoj', hall⟩ := mem_ready.1 hj
  rw [hoj] at hoj'
  cases hoj'
  have h1 := hall e he hb
  have h0 := (mem_ready.1 hi).1
  rcases Nat.lt_or_ge e.on listed.size with h' | h'
  · simp [h'] at h0 h1; rw [h0] at h1; cases h1
  · simp [Array.getElem?_eq_none h'] at h1
/-- An operation that yields in every world that meets S, and that k waits for. -/
theorem wpAnyP_first {P : Program} {ops : Array Oper} {Q : Exit → Act → World → Prop} {md : Region.Mode} {S : World → Prop} {k : Nat} {i : Nat} {oi : Oper} {v : Value} (hi : ops[i]? = some oi) (hsel : ∀ (j : Nat) (o : Oper) cs b, ops[j]? = some o → o.op ≠ .select cs b)
    (hQ : ∀ c a w, Q (.panic c) (a.put oi.dst v) w → Q (.panic c) a w) (hd : i ∈ depsOf md ops k) :
    ∀ (fuel : Nat) (listed : Array Bool) (a : Act) (w : World),
      (∀ j oj, ops[j]? = some oj → j ≠ i → listed.getD j true = false → (∀ e ∈ oj.after, Region.binds md e = true → e.on ≠ i) → oi.apart ops oj = true) →
      i ∈ Region.ready md ops listed → listed.getD k true = false → YieldsIf P ops S oi v a → S w →
      wpAnyP P md ops Q S k fuel (listed.setIfInBounds i true) (a.put oi.dst v) w → wpAnyP P md ops Q S k (fuel + 1) listed a w := by
  intro fuel
  induction fuel with
  | zero =>
    intro listed a w _ hr _ hy hS H
    refine ⟨fun h => (by rw [h] at hr; cases hr), fun j hj => ?_⟩
    by_cases hji : j = i
    · subst hji; exact hy.wpOp hi hS ⟨fun _ => hS, H⟩
    · have := ready_mono hj hji
      rw [H.1] at this
      cases this
  | succ fuel ih =>
    intro listed a w hfree hr hk hy hS H
    refine ⟨fun h => (by rw [h] at hr; cases hr), fun j hj => ?_⟩
    by_cases hji : j = i
    · subst hji; exact hy.wpOp hi hS ⟨fun _ => hS, H⟩
    · have h1 := H.2 j (ready_mono hj hji)
      obtain ⟨hjun, oj, hoj, hall⟩ := mem_ready.1 hj
      have hjk : j ≠ k := fun e => by subst e; exact ready_waits hr hj hd
      have hik : i ≠ k := fun e => by subst e; exact ready_waits hr hr hd
      have hnot : ∀ e ∈ oj.after, Region.binds md e = true → e.on ≠ i := fun e he hb heq => ready_waits hr hj (mem_deps.2 ⟨oj, hoj, e, he, hb, heq⟩)
      have h2 := wpOp_putIf hoj (hfree j oj hoj hji hjun hnot) (fun cs b => hsel i oi cs b hi) (fun cs b => hsel j oj cs b hoj) hQ hy h1
      have hfree' : ∀ k ok, ops[k]? = some ok → k ≠ i → (listed.setIfInBounds j true).getD k true = false →
          (∀ e ∈ ok.after, Region.binds md e = true → e.on ≠ i) → oi.apart ops ok = true := fun k ok hk hki hun hno => by
        refine hfree k ok hk hki ?_ hno
        by_cases hjk : j = k
        · subst hjk; exact hjun
        · rw [getD_set_ne true hjk] at hun; exact hun
      have hk' : (listed.setIfInBounds j true).getD k true = false := by rw [getD_set_ne true hjk]; exact hk
      have hk2 : ((listed.setIfInBounds i true).setIfInBounds j true).getD k true = false := by rw [getD_set_ne true hjk, getD_set_ne true hik]; exact hk
      refine wpOp_mono (fun a' w' h3 => ⟨fun _ => h3.2.1 hk2, ih (listed.setIfInBounds j true) a' w' hfree' (ready_mono hr (Ne.symm hji)) hk' h3.1 (h3.2.1 hk2) ?_⟩) h2
      rw [Array.setIfInBounds_comm _ _ hji]
      exact h3.2.2
/-- An operation that yields in whatever world. -/
theorem wpAnyP_pure {P : Program} {ops : Array Oper} {Q : Exit → Act → World → Prop} {md : Region.Mode} {S : World → Prop} {k : Nat} {i : Nat} {oi : Oper} {v : Value} (hi : ops[i]? = some oi) (hsel : ∀ (j : Nat) (o : Oper) cs b, ops[j]? = some o → o.op ≠ .select cs b)
    (hQ : ∀ c a w, Q (.panic c) (a.put oi.dst v) w → Q (.panic c) a w) (hik : i ≠ k) :
    ∀ (fuel : Nat) (listed : Array Bool) (a : Act) (w : World),
      (∀ j oj, ops[j]? = some oj → j ≠ i → listed.getD j true = false → (∀ e ∈ oj.after, Region.binds md e = true → e.on ≠ i) → oi.apart ops oj = true) →
      i ∈ Region.ready md ops listed → YieldsIf P ops (fun _ => True) oi v a → (listed.getD k true = false → S w) →
      wpAnyP P md ops Q S k fuel (listed.setIfInBounds i true) (a.put oi.dst v) w → wpAnyP P md ops Q S k (fuel + 1) listed a w := by
  intro fuel
  induction fuel with
  | zero =>
    intro listed a w _ hr hy hS H
    refine ⟨fun h => (by rw [h] at hr; cases hr), fun j hj => ?_⟩
    by_cases hji : j = i
    · subst hji; exact hy.wpOp hi trivial ⟨fun h => hS (by rw [getD_set_ne true hik] at h; exact h), H⟩
    · have := ready_mono hj hji
      rw [H.1] at this
      cases this
  | succ fuel ih =>
    intro listed a w hfree hr hy hS H
    refine ⟨fun h => (by rw [h] at hr; cases hr), fun j hj => ?_⟩
    by_cases hji : j = i
    · subst hji; exact hy.wpOp hi trivial ⟨fun h => hS (by rw [getD_set_ne true hik] at h; exact h), H⟩
    · have h1 := H.2 j (ready_mono hj hji)
      obtain ⟨hjun, oj, hoj, hall⟩ := mem_ready.1 hj
      have hnot : ∀ e ∈ oj.after, Region.binds md e = true → e.on ≠ i := fun e he hb heq => ready_waits hr hj (mem_deps.2 ⟨oj, hoj, e, he, hb, heq⟩)
      have h2 := wpOp_putIf hoj (hfree j oj hoj hji hjun hnot) (fun cs b => hsel i oi cs b hi) (fun cs b => hsel j oj cs b hoj) hQ hy h1
      have hfree' : ∀ k ok, ops[k]? = some ok → k ≠ i → (listed.setIfInBounds j true).getD k true = false →
          (∀ e ∈ ok.after, Region.binds md e = true → e.on ≠ i) → oi.apart ops ok = true := fun k ok hk hki hun hno => by
        refine hfree k ok hk hki ?_ hno
        by_cases hjk : j = k
        · subst hjk; exact hjun
        · rw [getD_set_ne true hjk] at hun; exact hun
      have hS' : ∀ w', (((listed.setIfInBounds i true).setIfInBounds j true).getD k true = false → S w') → (listed.setIfInBounds j true).getD k true = false → S w' := fun w' h hk => h (by
        by_cases hjk : j = k
        · subst hjk
          rcases Nat.lt_or_ge j listed.size with h' | h'
          · simp [h'] at hk
          · simp [Array.getElem?_eq_none h'] at hjun
        · rw [getD_set_ne true hjk] at hk ⊢; rw [getD_set_ne true hik]; exact hk)
      refine wpOp_mono (fun a' w' h3 => ⟨hS' _ h3.2.1, ih (listed.setIfInBounds j true) a' w' hfree' (ready_mono hr (Ne.symm hji)) h3.1 (hS' _ h3.2.1) ?_⟩) h2
      rw [Array.setIfInBounds_comm _ _ hji]
      exact h3.2.2
/-- Take number i first: it yields in every world that meets S, k waits for it. -/
theorem wpAnyP_take {P : Program} {ops : Array Oper} {Q : Exit → Act → World → Prop} {md : Region.Mode} {S : World → Prop} {k : Nat} {i : Nat} {oi : Oper} {v : Value} {fuel : Nat} {listed : Array Bool} {a : Act} {w : World} (hi : ops[i]? = some oi)
    (hs : Region.noSelect ops = true) (hf : Region.free md ops listed i = true) (hr : (Region.ready md ops listed).contains i = true) (hd : (depsOf md ops k).contains i = true) (hk : listed.getD k true = false)
    (hQ : ∀ c a w, Q (.panic c) (a.put oi.dst v) w → Q (.panic c) a w) (hy : YieldsIf P ops S oi v a) (hS : S w)
    (h : wpAnyP P md ops Q S k fuel (listed.setIfInBounds i true) (a.put oi.dst v) w) : wpAnyP P md ops Q S k (fuel + 1) listed a w :=
  wpAnyP_first hi (Region.noSelect_spec hs) hQ (by simpa using hd) fuel listed a w (Region.free_spec hi hf) (by simpa using hr) hk hy hS h
/-- Take number i first: it yields in whatever world. -/
theorem wpAnyP_skim {P : Program} {ops : Array Oper} {Q : Exit → Act → World → Prop} {md : Region.Mode} {S : World → Prop} {k : Nat} {i : Nat} {oi : Oper} {v : Value} {fuel : Nat} {listed : Array Bool} {a : Act} {w : World} (hi : ops[i]? = some oi)
    (hs : Region.noSelect ops = true) (hf : Region.free md ops listed i = true) (hr : (Region.ready md ops listed).contains i = true) (hik : (i == k) = false)
    (hQ : ∀ c a w, Q (.panic c) (a.put oi.dst v) w → Q (.panic c) a w) (hy : YieldsIf P ops (fun _ => True) oi v a) (hS : listed.getD k true = false → S w)
    (h : wpAnyP P md ops Q S k fuel (listed.setIfInBounds i true) (a.put oi.dst v) w) : wpAnyP P md ops Q S k (fuel + 1) listed a w :=
  wpAnyP_pure hi (Region.noSelect_spec hs) hQ (by simpa using hik) fuel listed a w (Region.free_spec hi hf) (by simpa using hr) hy hS h
/-- Each of the operations rs comes up next. -/
def AllReadyP (P : Program) (md : Region.Mode) (ops : Array Oper) (Q : Exit → Act → World → Prop) (S : World → Prop) (k : Nat) (fuel : Nat) (listed : Array Bool) (a : Act) (w : World) (rs : List Nat) : Prop :=
  ∀ i ∈ rs, wpOp P ops Q i (fun a' w' => ((listed.setIfInBounds i true).getD k true = false → S w') ∧ wpAnyP P md ops Q S k fuel (listed.setIfInBounds i true) a' w') a w
theorem AllReadyP.nil {P : Program} {ops : Array Oper} {Q : Exit → Act → World → Prop} {md : Region.Mode} {S : World → Prop} {k : Nat} {fuel : Nat} {listed : Array Bool} {a : Act} {w : World} : AllReadyP P md ops Q S k fuel listed a w [] := fun _ h => by cases h
theorem AllReadyP.cons {P : Program} {ops : Array Oper} {Q : Exit → Act → World → Prop} {md : Region.Mode} {S : World → Prop} {k : Nat} {fuel : Nat} {listed : Array Bool} {a : Act} {w : World} {i : Nat} {o : Oper} {rs : List Nat} (ho : ops[i]? = some o)
    (h : ∀ K' : Act → World → Prop, Shut (∀ a w, ((listed.setIfInBounds i true).getD k true = false → S w) → (((listed.setIfInBounds i true).getD k true = false → S w) → wpAnyP P md ops Q S k fuel (listed.setIfInBounds i true) a w) → K' a w) → if Region.wanted o (yielded ops a.tmps) = true then Oper.wp P o a w K' Q else K' (a.put o.dst undef) w)
    (hs : AllReadyP P md ops Q S k fuel listed a w rs) : AllReadyP P md ops Q S k fuel listed a w (i :: rs) := fun j hj => by
  rcases List.mem_cons.1 hj with rfl | hj
  · exact wpOp_step ho (fun K' hK => h K' (fun a w hS hW => hK a w ⟨hS, hW hS⟩))
  · exact hs j hj
theorem wpAnyP_ready {P : Program} {ops : Array Oper} {Q : Exit → Act → World → Prop} {md : Region.Mode} {S : World → Prop} {k : Nat} {rs : List Nat} {fuel : Nat} {listed : Array Bool} {a : Act} {w : World} (hr : Region.ready md ops listed = rs) (hne : rs ≠ [])
    (h : AllReadyP P md ops Q S k fuel listed a w rs) : wpAnyP P md ops Q S k (fuel + 1) listed a w := ⟨fun h0 => absurd (hr ▸ h0) hne, hr ▸ h⟩
theorem wpAnyP_done {P : Program} {ops : Array Oper} {Q : Exit → Act → World → Prop} {md : Region.Mode} {S : World → Prop} {k : Nat} {listed : Array Bool} {a : Act} {w : World} (hr : Region.ready md ops listed = []) (h : Q .normal a w) :
    ∀ fuel, wpAnyP P md ops Q S k fuel listed a w
  | 0 => ⟨hr, h⟩
  | _ + 1 => ⟨fun _ => h, by rw [hr]; simp⟩
/-- The beginning. -/
theorem wp_region_phase {P : Program} {ops : Array Oper} {Q : Exit → Act → World → Prop} {S : World → Prop} {id : Nat} {a : Act} {w : World} (k : Nat) (hm : P.follows .mixedOrders = true) (hS : S w.drew)
    (h : S w.drew → wpAnyP P .any ops Q S k ops.size (Array.replicate ops.size false) a w.drew) : (Code.region id ops true).wp P Q a w :=
  wp_region_any hm (wpAny_of_phase _ _ _ _ (h hS))
end Go.Proofs.YtlpmfmphglgocaaGreatDoor

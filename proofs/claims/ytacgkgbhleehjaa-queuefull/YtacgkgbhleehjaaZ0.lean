/-
  Lists of calls of a queue in memory. No Go text is named here. What the rows of this seat share: how arguments that are lists of calls of a queue are opened. The seat's rows list no tables. A heap of pairs (number, key) as a function of places: the order, what sifting up and down keeps, the first one. No Go text is named here. A map from numbers to numbers in memory: what it holds, looked up, stored into, deleted from. No Go text is named here. Walks of cmp.Compare, cmp.Or and the queue's compare. The queue in memory: its struct, its row of items, its map of places. Walks of line's Len, Less, Swap.
-/
import Derived.WalkKit
import Derived.Test.YtacgkgbhleehjaaRows
import Derived.Test.YtacgkgbhleehjaaChecked
import Derived.ProofKit
import Derived.OpenShut
import Derived.ChangeSame
import Derived.Deep.Slices
import Derived.Deep.DeepHandedRow
import Derived.LaidLaws
import Derived.Test.YtacgkgbhleehjaaProg
import Derived.MapKept
import Derived.ChangeMaps5
import Derived.WalkSpells
import Derived.WalkLawsBesides
import Derived.Deep.QuietTactic
import Derived.BigQuiet
import Derived.BigRegion
import Derived.Deep.RegionHeld3
import Derived.Sort.Grow
namespace Go.Proofs.Ytacgkgbhleehjaa
open Go.RowKit

/-- One call. -/
structure Op3 where
  kind : Int
  id : Int
  key : Int
/-- The slice at 'ao' with k calls reads as X. -/
def Ops (w : World) (ao : Option Addr) (k : Nat) (X : Nat → Op3) : Prop :=
  ∀ j, j < k → ∃ b o, ao = some ⟨b, o, none⟩ ∧ w.cell? ⟨b, o + j * 3, none⟩ = some (.int .i64 (X j).kind) ∧ w.cell? ⟨b, o + (j * 3 + 1), none⟩ = some (.int .i64 (X j).id) ∧ w.cell? ⟨b, o + (j * 3 + 2), none⟩ = some (.int .i64 (X j).key)
theorem Ops.below {w w' ao k X} (h : Ops w ao k X) (hb : Below w.heap.size w w') : Ops w' ao k X := fun j hj => by
  obtain ⟨b, o, e, h0, h1, h2⟩ := h j hj
  exact ⟨b, o, e, (hb.cell (World.block_lt_of_cell? w _ h0)).trans h0, (hb.cell (World.block_lt_of_cell? w _ h1)).trans h1, (hb.cell (World.block_lt_of_cell? w _ h2)).trans h2⟩
end Go.Proofs.Ytacgkgbhleehjaa
namespace Go.Proofs.Ytacgkgbhleehjaa
open Go.ChangeShapes Go.WideShapes Go.ChangeAt Go.RowKit

theorem Try.own : ownKnob Try.prog.godebug = none := by kernel_rfl
theorem Try.laidOut : laidOutB Try.prog = true := by kernel_rfl
theorem Try.cellsOp : Try.prog.cellsOf 28 = 3 := by kernel_rfl
theorem Try.readOps : Try.prog.readableRec 22 = true := by kernel_rfl
theorem Try.sizeOps : 22 < Try.prog.types.size := of_decide_eq_true (by kernel_rfl)
/-- A struct of three fields: each is read by itself. -/
theorem fields3 {H : Type} {enc : TypeId × Value → H} {P : Program} {w : World} {base : Nat} {spare : Nat → Bool} {held : Bool} {t : TypeId} {f0 f1 f2 : Field} {fuel : Nat} {cs : List Value} {x : DataW H × List MemPlace} (ht : P.underlying t = some (.struct #[f0, f1, f2])) (h : DataW.trod enc P w base spare held fuel t cs = some x) :
    ∃ y0 y1 y2 k, DataW.trod enc P w base spare held k f0.type ((cs.drop f0.offset).take (P.cellsOf f0.type)) = some y0 ∧ DataW.trod enc P w base spare held k f1.type ((cs.drop f1.offset).take (P.cellsOf f1.type)) = some y1 ∧ DataW.trod enc P w base spare held k f2.type ((cs.drop f2.offset).take (P.cellsOf f2.type)) = some y2 := by
  obtain ⟨ys, k, _, rfl, _, hlen, hf⟩ := DataW.trod_struct ht h
  match ys, hlen with
  | [y0, y1, y2], _ => exact ⟨y0, y1, y2, k, by simpa using hf 0 f0 rfl, by simpa using hf 1 f1 rfl, by simpa using hf 2 f2 rfl⟩
set_option maxRecDepth 100000 in
theorem viewI {H : Type} {enc : TypeId × Value → H} {W : World} {k : Nat} {c : Value} {z : DataW H × List MemPlace} (hf : DataW.trod enc Try.prog W 0 (fun _ => true) true k 3 [c] = some z) : ∃ x, c = .int .i64 x := by
  obtain ⟨x, hs, _⟩ := DataW.trod_int Try.underlying3 hf
  simp at hs
  exact ⟨x, hs⟩
set_option maxRecDepth 100000 in
theorem viewOp {H : Type} {enc : TypeId × Value → H} {W : World} {k : Nat} {c0 c1 c2 : Value} {z : DataW H × List MemPlace} (hf : DataW.trod enc Try.prog W 0 (fun _ => true) true k 28 [c0, c1, c2] = some z) :
    ∃ x y u, c0 = .int .i64 x ∧ c1 = .int .i64 y ∧ c2 = .int .i64 u := by
  obtain ⟨y0, y1, y2, k, h0, h1, h2⟩ := fields3 Try.underlying28 hf
  have h0' : DataW.trod enc Try.prog W 0 (fun _ => true) true k 3 [c0] = some y0 := h0
  have h1' : DataW.trod enc Try.prog W 0 (fun _ => true) true k 3 [c1] = some y1 := h1
  have h2' : DataW.trod enc Try.prog W 0 (fun _ => true) true k 3 [c2] = some y2 := h2
  obtain ⟨x, e0⟩ := viewI h0'
  obtain ⟨y, e1⟩ := viewI h1'
  obtain ⟨u, e2⟩ := viewI h2'
  exact ⟨x, y, u, e0, e1, e2⟩
theorem cellsq {w : World} {base n : Nat} {a : Addr} {cs : List Value} (h : w.cells? base a n = some cs) : cs.length = n ∧ ∀ i u, cs[i]? = some u → w.cell? (a.add i) = some u := by
  obtain ⟨_, h1, h2⟩ := World.cells?_some h
  refine ⟨h1, fun i u hi => ?_⟩
  have hlt : i < n := by rw [← h1]; exact (List.getElem?_eq_some_iff.1 hi).1
  rw [← hi]; exact h2 i hlt
theorem addq (a : Addr) (j i : Nat) : (a.add j).add i = a.add (j + i) := by
  obtain ⟨b, o, s⟩ := a
  by_cases hj : j = 0
  · subst hj; by_cases hi : i = 0
    · subst hi; simp [Addr.add]
    · simp [Addr.add, hi]
  · by_cases hi : i = 0
    · subst hi; simp [Addr.add, hj]
    · simp [Addr.add, hi, hj, Nat.add_assoc]
theorem addr_addq (b o j : Nat) : (⟨b, o, none⟩ : Addr).add j = ⟨b, o + j, none⟩ := by
  by_cases h : j = 0
  · subst h; simp [Addr.add]
  · simp [Addr.add, h]
set_option maxRecDepth 100000 in
/-- An argument that is a list of calls. -/
theorem viewOps {H : Type} {enc : TypeId × Value → H} {W : World} {base : Nat} {v : Value} {d : DataW H} {p : List MemPlace} (hok : Value.okWide Try.prog W .any base 22 v) (h : DataW.Trod enc Try.prog W 0 (fun _ => true) true 22 v d p) :
    ∃ ao k c X, v = .slice ao k c ∧ Ops W ao k X ∧ (k ≤ c ∧ c ≤ 9223372036854775807) := by
  obtain ⟨a0, len, cap, hv⟩ := okWide_slice Try.underlying22 hok
  subst hv
  obtain ⟨fuel, hf⟩ := h
  rcases Go.Deep.open_slice Try.underlying22 hf with ⟨hcs, _⟩ | ⟨a, len', cap', m, n, D, Pl, hcs, _, hl, hm, hmm, _, hel⟩
  · simp [Value.cells] at hcs
    obtain ⟨rfl, rfl, rfl⟩ := hcs
    exact ⟨none, 0, 0, fun _ => ⟨0, 0, 0⟩, rfl, fun j hj => by omega, by omega, by omega⟩
  · simp [Value.cells] at hcs
    obtain ⟨rfl, rfl, rfl⟩ := hcs
    have hX : ∀ j, ∃ t : Op3, j < len → W.cell? (a.add (j * 3)) = some (.int .i64 t.kind) ∧ W.cell? (a.add (j * 3 + 1)) = some (.int .i64 t.id) ∧ W.cell? (a.add (j * 3 + 2)) = some (.int .i64 t.key) := fun j => by
      by_cases hj : j < len
      · obtain ⟨cs', h1, h2⟩ := hel j (by simp only [if_true] at hmm; omega)
        rw [Try.cellsOp] at h1
        obtain ⟨h3, h4⟩ := cellsq h1
        match cs', h3 with
        | [c0, c1, c2], _ =>
          obtain ⟨x, y, u, rfl, rfl, rfl⟩ := viewOp h2
          refine ⟨⟨x, y, u⟩, fun _ => ⟨?_, ?_, ?_⟩⟩
          · have := h4 0 _ rfl; rwa [addq, Nat.add_zero] at this
          · have := h4 1 _ rfl; rwa [addq] at this
          · have := h4 2 _ rfl; rwa [addq] at this
      · exact ⟨⟨0, 0, 0⟩, fun h => absurd h hj⟩
    obtain ⟨X, hX⟩ := Classical.axiomOfChoice hX
    refine ⟨some a, len, cap, X, rfl, fun j hj => ?_, hl, by unfold maxLen at hm; omega⟩
    obtain ⟨h0, h1, h2⟩ := hX j hj
    obtain ⟨b, o, s⟩ := a
    have hsp : s = none := by
      have := World.cell?_spot (hX 0 (by omega)).1
      simpa [Addr.add] using this
    subst hsp
    rw [addr_addq] at h0 h1 h2
    exact ⟨b, o, rfl, h0, h1, h2⟩
end Go.Proofs.Ytacgkgbhleehjaa
namespace Go.Proofs.Ytacgkgbhleehjaa

/-- a stands ahead of b: by key, of equal keys by number. -/
def ahd (a b : Int × Int) : Prop := a.2 < b.2 ∨ (a.2 = b.2 ∧ a.1 < b.1)
instance (a b : Int × Int) : Decidable (ahd a b) := by unfold ahd; exact inferInstance
theorem ahd_irrefl (a : Int × Int) : ¬ ahd a a := by unfold ahd; omega
theorem ahd_trans {a b c : Int × Int} (h : ahd a b) (k : ahd b c) : ahd a c := by unfold ahd at *; omega
theorem ahd_asymm {a b : Int × Int} (h : ahd a b) : ¬ ahd b a := by unfold ahd at *; omega
theorem ahd_tri {a b : Int × Int} (h : ¬ ahd a b) : a = b ∨ ahd b a := by
  unfold ahd at *
  rcases a with ⟨x, y⟩; rcases b with ⟨u, v⟩
  simp only [Prod.mk.injEq] at *
  omega
theorem ahd_not {a b c : Int × Int} (h : ¬ ahd a b) (k : ¬ ahd b c) : ¬ ahd a c := by unfold ahd at *; omega

/-- Two places exchanged. -/
def swf (d : Nat → Int × Int) (i j : Nat) : Nat → Int × Int := fun k => if k = i then d j else if k = j then d i else d k
theorem swf_l (d : Nat → Int × Int) (i j : Nat) : swf d i j i = d j := by simp [swf]
theorem swf_r (d : Nat → Int × Int) (i j : Nat) : swf d i j j = d i := by
  unfold swf; by_cases h : j = i
  · subst h; simp
  · simp [h]
theorem swf_ne {d : Nat → Int × Int} {i j k : Nat} (hi : k ≠ i) (hj : k ≠ j) : swf d i j k = d k := by simp [swf, hi, hj]
theorem swf_self (d : Nat → Int × Int) (i : Nat) : swf d i i = d := by
  funext k; unfold swf; by_cases h : k = i
  · subst h; simp
  · simp [h]

/-- A heap of the first n. -/
def Hp (n : Nat) (d : Nat → Int × Int) : Prop := ∀ c, 0 < c → c < n → ¬ ahd (d c) (d ((c - 1) / 2))
/-- A heap but for the edge from j upward. -/
def Hup (n : Nat) (d : Nat → Int × Int) (j : Nat) : Prop :=
  (∀ c, 0 < c → c < n → c ≠ j → ¬ ahd (d c) (d ((c - 1) / 2))) ∧ (∀ c, 0 < c → c < n → (c - 1) / 2 = j → 0 < j → ¬ ahd (d c) (d ((j - 1) / 2)))
/-- A heap but for the edges at i0 (nothing sunk yet), or sunk from i0 to i. -/
def Hdn (n : Nat) (d : Nat → Int × Int) (i0 i : Nat) : Prop :=
  (∀ c, 0 < c → c < n → (c - 1) / 2 ≠ i → (c ≠ i0 ∨ i0 < i) → ¬ ahd (d c) (d ((c - 1) / 2))) ∧ (∀ c, 0 < c → c < n → (c - 1) / 2 = i → 0 < i → ¬ ahd (d c) (d ((i - 1) / 2)))
theorem Hp.hup {n d} (h : Hp n d) (j : Nat) (hg : ∀ c, 0 < c → c < n → (c - 1) / 2 = j → 0 < j → ¬ ahd (d c) (d ((j - 1) / 2))) : Hup n d j := ⟨fun c h0 hn _ => h c h0 hn, hg⟩
theorem Hp.grand {n d} (h : Hp n d) {j c : Nat} (h0 : 0 < c) (hn : c < n) (hc : (c - 1) / 2 = j) (hj : 0 < j) : ¬ ahd (d c) (d ((j - 1) / 2)) := by
  have h1 := h c h0 hn
  rw [hc] at h1
  exact ahd_not h1 (h j hj (by omega))
theorem Hup.done0 {n d} (h : Hup n d 0) : Hp n d := fun c h0 hn => h.1 c h0 hn (by omega)
theorem Hup.done {n d j} (h : Hup n d j) (hj : ¬ ahd (d j) (d ((j - 1) / 2))) : Hp n d := fun c h0 hn => by
  by_cases e : c = j
  · subst e; exact hj
  · exact h.1 c h0 hn e
theorem Hup.step {n d j} (h : Hup n d j) (hn : j < n) (hj : 0 < j) (hl : ahd (d j) (d ((j - 1) / 2))) : Hup n (swf d ((j - 1) / 2) j) ((j - 1) / 2) := by
  have hp : (j - 1) / 2 < j := by omega
  generalize hi : (j - 1) / 2 = i at *
  refine ⟨fun c h0 hc hne => ?_, fun c h0 hc hpar hi0 => ?_⟩
  · by_cases e : c = j
    · subst e
      rw [hi, swf_r, swf_l]
      exact ahd_asymm hl
    · rw [swf_ne (by omega) e]
      by_cases e1 : (c - 1) / 2 = i
      · rw [e1, swf_l]
        have := h.1 c h0 hc e
        rw [e1] at this
        exact ahd_not this (ahd_asymm hl)
      · by_cases e2 : (c - 1) / 2 = j
        · rw [e2, swf_r]
          have := h.2 c h0 hc e2 hj
          rwa [hi] at this
        · rw [swf_ne e1 e2]
          exact h.1 c h0 hc e
  · have e3 : (i - 1) / 2 ≠ i := by omega
    have e4 : (i - 1) / 2 ≠ j := by omega
    rw [swf_ne e3 e4]
    have hii := h.1 i hi0 (by omega) (by omega)
    by_cases e : c = j
    · subst e
      rw [swf_r]
      exact hii
    · rw [swf_ne (by omega) e]
      have := h.1 c h0 hc e
      rw [hpar] at this
      exact ahd_not this hii
theorem Hup.below {n d j} (h : Hup n d j) : Hup n d j := h

theorem Hdn.start {n d i0} (h1 : ∀ c, 0 < c → c < n → c ≠ i0 → (c - 1) / 2 ≠ i0 → ¬ ahd (d c) (d ((c - 1) / 2))) (h2 : ∀ c, 0 < c → c < n → (c - 1) / 2 = i0 → 0 < i0 → ¬ ahd (d c) (d ((i0 - 1) / 2))) : Hdn n d i0 i0 :=
  ⟨fun c h0 hn hp ho => h1 c h0 hn (ho.elim id (fun h => absurd h (Nat.lt_irrefl _))) hp, h2⟩
/-- The lesser child j of i is taken up. -/
theorem Hdn.step {n d i0 i j} (h : Hdn n d i0 i) (h0 : i0 ≤ i) (hj : (j - 1) / 2 = i) (hj0 : 0 < j) (hjn : j < n) (hl : ahd (d j) (d i)) (hm : ∀ c, 0 < c → c < n → (c - 1) / 2 = i → ¬ ahd (d c) (d j)) : Hdn n (swf d i j) i0 j := by
  have hij : i < j := by omega
  refine ⟨fun c hc hn hp ho => ?_, fun c hc hn hp _ => ?_⟩
  · by_cases e : c = j
    · subst e
      rw [hj, swf_r, swf_l]
      exact ahd_asymm hl
    · by_cases e1 : c = i
      · subst e1
        rw [swf_l, swf_ne (by omega) (by omega)]
        exact h.2 j hj0 hjn hj hc
      · rw [swf_ne e1 e]
        by_cases e2 : (c - 1) / 2 = i
        · rw [e2, swf_l]
          exact hm c hc hn e2
        · rw [swf_ne e2 hp]
          exact h.1 c hc hn e2 (by
            rcases ho with ho | ho
            · exact .inl ho
            · by_cases e3 : c = i0
              · right; subst e3; omega
              · exact .inl e3)
  · rw [swf_ne (by omega) (by omega), hj, swf_l]
    have := h.1 c hc hn (by omega) (by left; omega)
    rwa [hp] at this
/-- Sinking is done: no child stands ahead. -/
theorem Hdn.moved {n d i0 i} (h : Hdn n d i0 i) (hi : i0 < i) (hm : ∀ c, 0 < c → c < n → (c - 1) / 2 = i → ¬ ahd (d c) (d i)) : Hp n d := fun c hc hn => by
  by_cases e : (c - 1) / 2 = i
  · rw [e]; exact hm c hc hn e
  · exact h.1 c hc hn e (.inr hi)
theorem Hdn.stays {n d i0} (h : Hdn n d i0 i0) (hm : ∀ c, 0 < c → c < n → (c - 1) / 2 = i0 → ¬ ahd (d c) (d i0)) : Hup n d i0 := by
  refine ⟨fun c hc hn hne => ?_, h.2⟩
  by_cases e : (c - 1) / 2 = i0
  · rw [e]; exact hm c hc hn e
  · exact h.1 c hc hn e (.inl hne)
theorem Hp.less {n d m} (h : Hp n d) (hm : m ≤ n) : Hp m d := fun c h0 hc => h c h0 (by omega)
/-- The first of a heap: none stands ahead of it. -/
theorem Hp.first {n d} (h : Hp n d) : ∀ i, i < n → ¬ ahd (d i) (d 0) := by
  intro i
  induction i using Nat.strongRecOn with
  | ind i ih =>
    intro hi
    by_cases e : i = 0
    · subst e; exact ahd_irrefl _
    · exact ahd_not (h i (by omega) hi) (ih ((i - 1) / 2) (by omega) (by omega))

/-- The first n places hold just the items of a list, each number once; the list stands in order. -/
structure Abs (n : Nat) (d : Nat → Int × Int) (l : List (Int × Int)) : Prop where
  len : l.length = n
  mem : ∀ p, p ∈ l ↔ ∃ i, i < n ∧ d i = p
  inj : ∀ i j, i < n → j < n → (d i).1 = (d j).1 → i = j
  ord : l.Pairwise ahd
theorem Abs.nil (d : Nat → Int × Int) : Abs 0 d [] := ⟨rfl, fun p => by simp, fun i j hi => by omega, .nil⟩
theorem Abs.congr {n d d' l} (h : Abs n d l) (e : ∀ i, i < n → d' i = d i) : Abs n d' l :=
  ⟨h.len, fun p => (h.mem p).trans ⟨fun ⟨i, hi, he⟩ => ⟨i, hi, (e i hi).trans he⟩, fun ⟨i, hi, he⟩ => ⟨i, hi, (e i hi).symm.trans he⟩⟩, fun i j hi hj he => h.inj i j hi hj (by rw [← e i hi, ← e j hj]; exact he), h.ord⟩
theorem swf_at (d : Nat → Int × Int) (i j k : Nat) : swf d i j k = d (if k = i then j else if k = j then i else k) := by
  unfold swf; split
  · rfl
  · split <;> rfl
theorem Abs.swap {n d l i j} (h : Abs n d l) (hi : i < n) (hj : j < n) : Abs n (swf d i j) l := by
  have hb : ∀ k, k < n → (if k = i then j else if k = j then i else k) < n := fun k hk => by
    split
    · exact hj
    · split
      · exact hi
      · exact hk
  refine ⟨h.len, fun p => (h.mem p).trans ⟨fun ⟨k, hk, he⟩ => ⟨if k = i then j else if k = j then i else k, hb k hk, ?_⟩, fun ⟨k, hk, he⟩ => ⟨_, hb k hk, by rw [← he, swf_at]⟩⟩, fun a b ha hb' he => ?_, h.ord⟩
  · rw [swf_at, ← he]
    congr 1
    by_cases e1 : k = i
    · subst e1; simp
    · by_cases e2 : k = j
      · subst e2; simp [e1]
      · simp [e1, e2]
  · rw [swf_at, swf_at] at he
    have := h.inj _ _ (hb a ha) (hb b hb') he
    by_cases e1 : a = i <;> by_cases e2 : b = i <;> by_cases e3 : a = j <;> by_cases e4 : b = j <;> simp_all <;> omega
end Go.Proofs.Ytacgkgbhleehjaa
namespace Go.Proofs.Ytacgkgbhleehjaa
open Go.RowKit Go.MapKept Go.ChangeMaps

/-- The entries hold just R. -/
def Ent (es : Array MapEntry) (R : Int → Int → Prop) : Prop :=
  (∀ x ∈ es.toList, ∃ k v, x.key = .int .i64 k ∧ x.val = .int .i64 v) ∧ ∀ k v, R k v ↔ ∃ x ∈ es.toList, x.key = .int .i64 k ∧ x.val = .int .i64 v
/-- Block b is a map that holds R. -/
def Mp (w : World) (b : Nat) (R : Int → Int → Prop) : Prop :=
  ∃ es clock, w.heap[b]? = some (.map es clock) ∧ Stamped es clock ∧ Ent es R
/-- The entry of k has this stamp. -/
def Sm (w : World) (b : Nat) (k : Int) (st : Nat) : Prop :=
  ∃ es clock, w.heap[b]? = some (.map es clock) ∧ ∃ x ∈ es.toList, x.key = .int .i64 k ∧ x.born = st
theorem Mp.of {w w' b R} (h : Mp w b R) (e : w'.heap[b]? = w.heap[b]?) : Mp w' b R := by
  obtain ⟨es, c, h1, h2⟩ := h; exact ⟨es, c, e.trans h1, h2⟩
theorem Sm.of {w w' b k s} (h : Sm w b k s) (e : w'.heap[b]? = w.heap[b]?) : Sm w' b k s := by
  obtain ⟨es, c, h1, h2⟩ := h; exact ⟨es, c, e.trans h1, h2⟩
theorem Mp.lt {w b R} (h : Mp w b R) : b < w.heap.size := by
  obtain ⟨es, c, h1, _⟩ := h; exact (Array.getElem?_eq_some_iff.1 h1).1
theorem Mp.congr {w b R R'} (h : Mp w b R) (e : ∀ k v, R' k v ↔ R k v) : Mp w b R' := by
  obtain ⟨es, c, h1, h2, h3, h4⟩ := h; exact ⟨es, c, h1, h2, h3, fun k v => (e k v).trans (h4 k v)⟩
theorem Ent.key {es R} (h : Ent es R) : ∀ x ∈ es.toList, IsKey (.int .i64) x.key := fun x hx => by
  obtain ⟨k, v, e, _⟩ := h.1 x hx; rw [e]; rfl
theorem nd_same {l : List MapEntry} (hn : (l.map (·.key)).Nodup) {x y : MapEntry} (hx : x ∈ l) (hy : y ∈ l) (e : x.key = y.key) : x = y := by
  induction l with
  | nil => cases hx
  | cons a r ih =>
    simp only [List.map_cons, List.nodup_cons, List.mem_map, not_exists, not_and] at hn
    rcases List.mem_cons.1 hx with h1 | h1 <;> rcases List.mem_cons.1 hy with h2 | h2
    · rw [h1, h2]
    · subst h1; exact absurd e.symm (hn.1 y h2)
    · subst h2; exact absurd e (hn.1 x h1)
    · exact ih hn.2 h1 h2
theorem Mp.fun {w b R} (h : Mp w b R) {k u v : Int} (hu : R k u) (hv : R k v) : u = v := by
  obtain ⟨es, c, _, hs, he⟩ := h
  obtain ⟨x, hx, x1, x2⟩ := (he.2 k u).1 hu
  obtain ⟨y, hy, y1, y2⟩ := (he.2 k v).1 hv
  have := nd_same hs.2.2 hx hy (x1.trans y1.symm)
  subst this
  rw [x2] at y2
  simpa using y2
theorem Mp.find {es : Array MapEntry} {R : Int → Int → Prop} (he : Ent es R) (k : Int) :
    (Instr.findNow (.int .i64) (.int .i64 k) es.toList 0 = some none ∧ (∀ x ∈ es.toList, x.key ≠ .int .i64 k) ∧ ∀ v, ¬ R k v) ∨ ∃ j x v, Instr.findNow (.int .i64) (.int .i64 k) es.toList 0 = some (some (j, .int .i64 v)) ∧ es[j]? = some x ∧ x ∈ es.toList ∧ x.key = .int .i64 k ∧ x.val = .int .i64 v ∧ R k v := by
  rcases findNow_spec (d := .int .i64) (k := .int .i64 k) rfl es.toList 0 he.key with ⟨h1, h2⟩ | ⟨j, x, h1, h2, h3⟩
  · exact .inl ⟨h1, h2, fun v hv => by
      obtain ⟨x, hx, x1, _⟩ := (he.2 k v).1 hv
      exact h2 x hx x1⟩
  · have hx : x ∈ es.toList := List.mem_of_getElem? h2
    obtain ⟨k', v, e1, e2⟩ := he.1 x hx
    refine .inr ⟨j, x, v, ?_, by simpa using h2, hx, h3, e2, (he.2 k v).2 ⟨x, hx, h3, e2⟩⟩
    rw [h1, e2]; simp
variable {P : Program} {t kt et : TypeId} {w : World} {b : Nat} {R : Int → Int → Prop} {k v : Int}

/-- 'm[k]', 'v, ok := m[k]': the key is there. -/
theorem Mp.look (h : Mp w b R) (hm : P.underlying t = some (.map kt et)) (hd : P.underlying kt = some (.int .i64)) (hv : R k v) (ok : Bool) :
    (Instr.lookup t (.map (some b)) (.int .i64 k) ok).run P w = .ok (if ok then .tuple #[.int .i64 v, .bool true] else .int .i64 v) w := by
  have hf := h
  obtain ⟨es, c, hb, hs, he⟩ := h
  rcases Mp.find he k with ⟨_, _, h3⟩ | ⟨j, x, v', h1, _, _, _, _, hr⟩
  · exact absurd hv (h3 v)
  · have e := hf.fun hr hv
    subst e
    simp [Instr.lookup, run_underlying hm, MapKept.run_getObj_map hb, run_checkKey hd (show IsKey (.int .i64) (.int .i64 k) from rfl), run_findKey hd h1, Result.andThen]
/-- .. it isn't. -/
theorem Mp.miss (h : Mp w b R) (hm : P.underlying t = some (.map kt et)) (hd : P.underlying kt = some (.int .i64)) (hz : (zeroValue et).run P w = .ok (.int .i64 0) w) (hv : ∀ v, ¬ R k v) (ok : Bool) :
    (Instr.lookup t (.map (some b)) (.int .i64 k) ok).run P w = .ok (if ok then .tuple #[.int .i64 0, .bool false] else .int .i64 0) w := by
  obtain ⟨es, c, hb, hs, he⟩ := h
  rcases Mp.find he k with ⟨h1, _, _⟩ | ⟨j, x, v', h1, _, _, _, _, hr⟩
  · simp [Instr.lookup, run_underlying hm, MapKept.run_getObj_map hb, run_checkKey hd (show IsKey (.int .i64) (.int .i64 k) from rfl), run_findKey hd h1, hz, Result.andThen]
  · exact absurd hr (hv v')
theorem look_nilmap (hm : P.underlying t = some (.map kt et)) (hd : P.underlying kt = some (.int .i64)) (hz : (zeroValue et).run P w = .ok (.int .i64 0) w) (ok : Bool) :
    (Instr.lookup t (.map none) (.int .i64 k) ok).run P w = .ok (if ok then .tuple #[.int .i64 0, .bool false] else .int .i64 0) w := by
  simp [Instr.lookup, run_underlying hm, run_checkKey hd (show IsKey (.int .i64) (.int .i64 k) from rfl), run_findKey (l := []) (k := .int .i64 k) (a := none) hd rfl, hz, Result.andThen]
/-- R with another number at k. -/
def putR (R : Int → Int → Prop) (k v : Int) : Int → Int → Prop := fun k' v' => (k' = k ∧ v' = v) ∨ (k' ≠ k ∧ R k' v')
def delR (R : Int → Int → Prop) (k : Int) : Int → Int → Prop := fun k' v' => k' ≠ k ∧ R k' v'
/-- Only this block has turned. -/
structure One (b : Nat) (w w' : World) : Prop where
  os : w'.os = w.os
  tape : w'.tape = w.tape
  output : w'.output = w.output
  size : w'.heap.size = w.heap.size
  block : ∀ k, k ≠ b → w'.heap[k]? = w.heap[k]?
theorem one_setBlock (w : World) (b : Nat) (o : Obj) : One b w (setBlock w b o) :=
  ⟨rfl, rfl, rfl, by simp [setBlock], fun k hk => by simp [setBlock, Ne.symm hk]⟩
theorem mem_modify {es : Array MapEntry} {j : Nat} {x : MapEntry} {f : MapEntry → MapEntry} (hj : es[j]? = some x) (hn : es.toList.Nodup) (y : MapEntry) : y ∈ (es.modify j f).toList ↔ y = f x ∨ (y ∈ es.toList ∧ y ≠ x) := by
  have hl : es.toList[j]? = some x := by simpa using hj
  constructor
  · intro hy
    obtain ⟨i, hi⟩ := List.getElem?_of_mem hy
    simp only [Array.getElem?_toList, Array.getElem?_modify] at hi
    by_cases e : j = i
    · subst e; simp [hj] at hi; exact .inl hi.symm
    · simp [e] at hi
      refine .inr ⟨List.mem_of_getElem? (by simpa using hi), fun e2 => ?_⟩
      subst e2
      have hlt : j < es.toList.length := (List.getElem?_eq_some_iff.1 hl).1
      exact e ((List.getElem?_inj hlt hn).1 (by rw [hl]; simpa using hi.symm))
  · rintro (rfl | ⟨hy, hne⟩)
    · refine List.mem_of_getElem? (i := j) ?_
      simp [hj]
    · obtain ⟨i, hi⟩ := List.getElem?_of_mem hy
      refine List.mem_of_getElem? (i := i) ?_
      have : j ≠ i := fun e => by subst e; rw [hl] at hi; cases hi; exact hne rfl
      simp only [Array.getElem?_toList, Array.getElem?_modify, this, if_false]
      simpa using hi
theorem nd_of {es : Array MapEntry} {c : Nat} (hs : Stamped es c) : es.toList.Nodup := List.Pairwise.of_map (fun x : MapEntry => x.key) (fun a b h e => h (by rw [e])) hs.2.2
/-- An entry with another number. -/
theorem ent_modify {es : Array MapEntry} {c : Nat} (hs : Stamped es c) (he : Ent es R) {j : Nat} {x : MapEntry} (hj : es[j]? = some x) (hk : x.key = .int .i64 k) (f : MapEntry → MapEntry) (f1 : (f x).key = x.key) (f2 : (f x).val = .int .i64 v) (f3 : (f x).born = x.born) :
    Stamped (es.modify j f) c ∧ Ent (es.modify j f) (putR R k v) := by
  have hx : x ∈ es.toList := List.mem_of_getElem? (i := j) (by simpa using hj)
  have hn := nd_of hs
  have e0 : es.modify j f = es.modify j (fun _ => f x) := by
    apply Array.ext_getElem?
    intro i
    simp only [Array.getElem?_modify]
    by_cases e : j = i
    · subst e; simp [hj]
    · simp [e]
  refine ⟨?_, ?_, fun k' v' => ?_⟩
  · rw [e0]
    have hb : (es.modify j (fun _ => f x)).toList.map (·.born) = es.toList.map (·.born) := by
      apply List.ext_getElem?
      intro i
      simp only [List.getElem?_map, Array.getElem?_toList, Array.getElem?_modify]
      by_cases e : j = i
      · subst e; simp [hj, f3]
      · simp [e]
    have hk' := modify_keys (es := es) j (fun _ => f x) (fun e he' => by rw [hj] at he'; cases he'; exact f1)
    refine ⟨fun y hy => ?_, hb ▸ hs.2.1, hk' ▸ hs.2.2⟩
    have : y.born ∈ es.toList.map (·.born) := hb ▸ List.mem_map_of_mem hy
    obtain ⟨z, hz, e⟩ := List.mem_map.1 this
    rw [← e]; exact hs.1 z hz
  · intro y hy
    rcases (mem_modify hj hn y).1 hy with rfl | ⟨h1, _⟩
    · exact ⟨k, v, f1.trans hk, f2⟩
    · exact he.1 y h1
  · constructor
    · rintro (⟨rfl, rfl⟩ | ⟨hne, hr⟩)
      · exact ⟨f x, (mem_modify hj hn _).2 (.inl rfl), f1.trans hk, f2⟩
      · obtain ⟨y, hy, y1, y2⟩ := (he.2 k' v').1 hr
        refine ⟨y, (mem_modify hj hn _).2 (.inr ⟨hy, fun e => ?_⟩), y1, y2⟩
        subst e; rw [hk] at y1; simp at y1; exact hne y1.symm
    · rintro ⟨y, hy, y1, y2⟩
      rcases (mem_modify hj hn y).1 hy with rfl | ⟨h1, h2⟩
      · rw [f1, hk] at y1; rw [f2] at y2
        simp at y1 y2
        exact .inl ⟨y1.symm, y2.symm⟩
      · refine .inr ⟨fun e => ?_, (he.2 k' v').2 ⟨y, h1, y1, y2⟩⟩
        subst e
        exact h2 (nd_same hs.2.2 h1 hx (y1.trans hk.symm))
/-- 'm[k] = v'. -/
theorem Mp.update (h : Mp w b R) (hm : P.underlying t = some (.map kt et)) (hd : P.underlying kt = some (.int .i64)) (k v : Int) :
    ∃ w', (Instr.mapUpdate t (.map (some b)) (.int .i64 k) (.int .i64 v)).run P w = .ok () w' ∧ Mp w' b (putR R k v) ∧ One b w w' := by
  obtain ⟨es, c, hb, hs, he⟩ := h
  have hK : IsKey (.int .i64) (.int .i64 k) := rfl
  rcases Mp.find he k with ⟨h1, h2, h3⟩ | ⟨j, x, v', h1, hj, hx, hk, _, hr⟩
  · refine ⟨setBlock w b (.map (es.push ⟨.int .i64 k, .int .i64 v, c⟩) (c + 1)), ?_, ⟨_, _, heap_setBlock_same hb _, stamped_push hs h2, ?_, fun k' u => ?_⟩, one_setBlock _ _ _⟩
    · simp [Instr.mapUpdate, run_underlying hm, MapKept.run_getObj_map hb, run_checkKey hd hK, run_findKey hd h1, run_setObj_map _ hb, Result.andThen, setBlock]
    · intro y hy
      simp only [Array.toList_push, List.mem_append, List.mem_singleton] at hy
      rcases hy with hy | rfl
      · exact he.1 y hy
      · exact ⟨_, _, rfl, rfl⟩
    · simp only [Array.toList_push, List.mem_append, List.mem_singleton]
      constructor
      · rintro (⟨rfl, rfl⟩ | ⟨_, hr⟩)
        · exact ⟨_, .inr rfl, rfl, rfl⟩
        · obtain ⟨y, hy, y1, y2⟩ := (he.2 k' u).1 hr
          exact ⟨y, .inl hy, y1, y2⟩
      · rintro ⟨y, hy | rfl, y1, y2⟩
        · refine .inr ⟨fun e => ?_, (he.2 k' u).2 ⟨y, hy, y1, y2⟩⟩
          subst e; exact h2 y hy y1
        · simp at y1 y2
          exact .inl ⟨y1.symm, y2.symm⟩
  · have hm' := ent_modify (k := k) (v := v) hs he hj hk (fun e => { e with key := .int .i64 k, val := .int .i64 v }) hk.symm rfl rfl
    refine ⟨setBlock w b (.map (es.modify j fun e => { e with key := .int .i64 k, val := .int .i64 v }) c), ?_, ⟨_, _, heap_setBlock_same hb _, hm'.1, hm'.2⟩, one_setBlock _ _ _⟩
    simp [Instr.mapUpdate, run_underlying hm, MapKept.run_getObj_map hb, run_checkKey hd hK, run_findKey hd h1, hj, hk, run_keyThatStays hK, run_setObj_map _ hb, Result.andThen, setBlock]
/-- The entry of a key that is there: nothing turns. -/
theorem Mp.entry (h : Mp w b R) (hm : P.underlying t = some (.map kt et)) (hd : P.underlying kt = some (.int .i64)) (hv : R k v) :
    ∃ st : Nat, (Instr.mapEntry t (.map (some b)) (.int .i64 k)).run P w = .ok (.tuple #[.int .i64 v, .int .i64 st]) w ∧ Sm w b k st := by
  have hf := h
  obtain ⟨es, c, hb, hs, he⟩ := h
  have hK : IsKey (.int .i64) (.int .i64 k) := rfl
  rcases Mp.find he k with ⟨_, _, h3⟩ | ⟨j, x, v', h1, hj, hx, hk, _, hr⟩
  · exact absurd hv (h3 v)
  · have e := hf.fun hr hv
    subst e
    have hsame : es.modify j (fun e => { e with key := .int .i64 k }) = es := by
      apply Array.ext_getElem?
      intro i
      simp only [Array.getElem?_modify]
      by_cases e : j = i
      · subst e; simp only [hj, if_true, Option.map_some]
        congr 1
        cases x; simp at hk ⊢; exact hk.symm
      · simp [e]
    have hset : (w.heap.setIfInBounds b (.map es c)) = w.heap := by
      apply Array.ext_getElem?
      intro i
      by_cases e : b = i
      · subst e
        rw [Array.getElem?_setIfInBounds_self_of_lt (Array.getElem?_eq_some_iff.1 hb).1, hb]
      · simp [e]
    refine ⟨x.born, ?_, ⟨es, c, hb, x, hx, hk, rfl⟩⟩
    simp [Instr.mapEntry, run_underlying hm, MapKept.run_getObj_map hb, run_checkKey hd hK, run_findKey hd h1, hj, hk, run_keyThatStays hK, run_setObj_map _ hb, Result.andThen, hsame, hset, goInt]
/-- A store into that entry. -/
theorem Mp.store (h : Mp w b R) {st : Nat} (hst : Sm w b k st) (v : Int) :
    ∃ w', (Instr.entryStore t (.map (some b)) (.int .i64 st) (.int .i64 v)).run P w = .ok () w' ∧ Mp w' b (putR R k v) ∧ One b w w' ∧ ∀ k' s', Sm w b k' s' → Sm w' b k' s' := by
  obtain ⟨es, c, hb, hs, he⟩ := h
  obtain ⟨es', c', hb', x, hx, hk, hbn⟩ := hst
  rw [hb] at hb'
  cases hb'
  obtain ⟨j, hj⟩ := List.getElem?_of_mem hx
  have hj' : es[j]? = some x := by simpa using hj
  have hidx : es.findIdx? (fun e => ((e.born : Nat) : Int) == ((st : Nat) : Int)) = some j := by
    have hlt : j < es.size := (Array.getElem?_eq_some_iff.1 hj').1
    rw [Array.findIdx?_eq_some_iff_getElem]
    refine ⟨hlt, ?_, fun i hi => ?_⟩
    · have : es[j] = x := by rw [Array.getElem?_eq_getElem hlt] at hj'; exact Option.some.inj hj'
      simp [this, hbn]
    · have hil : i < es.size := by omega
      simp only [Bool.not_eq_true, beq_eq_false_iff_ne, ne_eq, Int.natCast_inj]
      intro e
      have e1 : (es.toList.map (·.born))[i]? = (es.toList.map (·.born))[j]? := by
        simp only [List.getElem?_map, hj, Option.map_some]
        rw [List.getElem?_eq_getElem (by simpa using hil)]
        simp [e, hbn]
      have := (List.getElem?_inj (by simpa using hil) hs.2.1).1 e1
      omega
  have hm' := ent_modify (k := k) (v := v) hs he hj' hk (fun e => { e with val := .int .i64 v }) rfl rfl rfl
  refine ⟨setBlock w b (.map (es.modify j fun e => { e with val := .int .i64 v }) c), ?_, ⟨_, _, heap_setBlock_same hb _, hm'.1, hm'.2⟩, one_setBlock _ _ _, fun k' s' hs' => ?_⟩
  · simp [Instr.entryStore, MapKept.run_getObj_map hb, asInt, asIntOf, hidx, run_setObj_map _ hb, Result.andThen, setBlock]
  · obtain ⟨es2, c2, hb2, y, hy, y1, y2⟩ := hs'
    rw [hb] at hb2
    cases hb2
    by_cases e : y = x
    · subst e
      exact ⟨_, _, heap_setBlock_same hb _, { y with val := .int .i64 v }, (mem_modify hj' (nd_of hs) _).2 (.inl rfl), y1, y2⟩
    · exact ⟨_, _, heap_setBlock_same hb _, y, (mem_modify hj' (nd_of hs) _).2 (.inr ⟨hy, e⟩), y1, y2⟩
/-- 'delete(m, k)'. -/
theorem Mp.delete (h : Mp w b R) (hm : P.underlying t = some (.map kt et)) (hd : P.underlying kt = some (.int .i64)) (k : Int) :
    ∃ w', (∀ ty, (Builtin.delete_ #[t, kt] ty #[.map (some b), .int .i64 k]).run P w = .ok (.tuple #[]) w') ∧ Mp w' b (delR R k) ∧ One b w w' := by
  obtain ⟨es, c, hb, hs, he⟩ := h
  have hK : IsKey (.int .i64) (.int .i64 k) := rfl
  rcases Mp.find he k with ⟨h1, h2, h3⟩ | ⟨j, x, v', h1, hj, hx, hk, _, hr⟩
  · refine ⟨setBlock w b (.map es c), ?_, ⟨_, _, heap_setBlock_same hb _, hs, he.1, fun k' u => ?_⟩, one_setBlock _ _ _⟩
    · intro ty; simp [Builtin.delete_, run_underlying hm, MapKept.run_getObj_map hb, run_checkKey hd hK, run_findKey hd h1, run_setObj_map _ hb, Result.andThen, setBlock]
    · rw [← he.2 k' u]
      refine ⟨fun h => h.2, fun h => ⟨fun e => ?_, h⟩⟩
      subst e; exact h3 u h
  · have hlt : j < es.size := (Array.getElem?_eq_some_iff.1 hj).1
    have hm2 : ∀ y, y ∈ (es.eraseIdxIfInBounds j).toList ↔ y ∈ es.toList ∧ y ≠ x := fun y => by
      have e1 : (es.eraseIdxIfInBounds j).toList = es.toList.eraseIdx j := by
        unfold Array.eraseIdxIfInBounds; simp [hlt]
      rw [e1, List.mem_eraseIdx_iff_getElem?]
      have hl : es.toList[j]? = some x := by simpa using hj
      constructor
      · rintro ⟨i, hi, hy⟩
        refine ⟨List.mem_of_getElem? hy, fun e => ?_⟩
        subst e
        exact hi ((List.getElem?_inj (by simpa using hlt) (nd_of hs)).1 (hl.trans hy.symm)).symm
      · rintro ⟨hy, hne⟩
        obtain ⟨i, hi⟩ := List.getElem?_of_mem hy
        exact ⟨i, fun e => by subst e; rw [hl] at hi; cases hi; exact hne rfl, hi⟩
    refine ⟨setBlock w b (.map (es.eraseIdxIfInBounds j) c), ?_, ⟨_, _, heap_setBlock_same hb _, stamped_erase hs j, fun y hy => he.1 y ((hm2 y).1 hy).1, fun k' u => ?_⟩, one_setBlock _ _ _⟩
    · intro ty; simp [Builtin.delete_, run_underlying hm, MapKept.run_getObj_map hb, run_checkKey hd hK, run_findKey hd h1, run_setObj_map _ hb, Result.andThen, setBlock]
    · constructor
      · rintro ⟨hne, hr'⟩
        obtain ⟨y, hy, y1, y2⟩ := (he.2 k' u).1 hr'
        exact ⟨y, (hm2 y).2 ⟨hy, fun e => by subst e; rw [hk] at y1; simp at y1; exact hne y1.symm⟩, y1, y2⟩
      · rintro ⟨y, hy, y1, y2⟩
        obtain ⟨hy, hne⟩ := (hm2 y).1 hy
        refine ⟨fun e => ?_, (he.2 k' u).2 ⟨y, hy, y1, y2⟩⟩
        subst e
        exact hne (nd_same hs.2.2 hy hx (y1.trans hk.symm))
theorem mp_made (w : World) : Mp (w.alloc (.map #[] 0)) w.heap.size (fun _ _ => False) :=
  ⟨#[], 0, (MapKept.heap_alloc w _).1, stamped_empty 0, by simp, fun k v => by simp⟩
end Go.Proofs.Ytacgkgbhleehjaa
namespace Go.Proofs.Ytacgkgbhleehjaa
open Go.RowKit Go.Sort

/-- A fact put aside. -/
theorem hid {p : Prop} (h : p) : Hid p := h
def cI (a b : Int) : Int := if a < b then -1 else if b < a then 1 else 0
def orI (x y : Int) : Int := if x = 0 then y else x
/-- The order of two items, as a number. -/
def cmpI (a b : Int × Int) : Int := orI (cI a.2 b.2) (cI a.1 b.1)
theorem cmpI_neg (a b : Int × Int) : cmpI a b < 0 ↔ ahd a b := by
  unfold cmpI orI cI ahd
  by_cases h1 : a.2 < b.2 <;> by_cases h2 : b.2 < a.2 <;> by_cases h3 : a.1 < b.1 <;> by_cases h4 : b.1 < a.1 <;> simp [h1, h2, h3, h4] <;> omega
theorem isNaN_c {w : World} {a : Int} : Calls Try.prog 52 #[.int .i64 a] w fun e w' => e = .returned (.bool false) ∧ w' = w := by
  have h1 : (a != a) = false := by simp
  go_enter Try.func52, Try.ntmps52
  go_wp2
  go_ret
  exact ⟨rfl, rfl⟩
theorem compare_c (w : World) (a b : Int) : Calls Try.prog 38 #[.int .i64 a, .int .i64 b] w fun e w' => e = .returned (.int .i64 (cI a b)) ∧ w' = w := by
  rcases Int.lt_trichotomy a b with h | h | h
  · have h1 : decide (a < b) = true := decide_eq_true h
    have HF := hid (show cI a b = -1 by simp [cI, h])
    clear h
    go_enter Try.func38, Try.ntmps38
    go_wp2_with fail
    refine isNaN_c.mono ?_
    rintro e w1 ⟨rfl, rfl⟩
    go_wp2_with fail
    refine isNaN_c.mono ?_
    rintro e w2 ⟨rfl, rfl⟩
    go_wp2
    go_ret
    rw [HF.out]
    exact ⟨rfl, rfl⟩
  · have h1 : decide (a < b) = false := decide_eq_false (by omega)
    have h2 : decide (b < a) = false := decide_eq_false (by omega)
    have HF := hid (show cI a b = 0 by subst h; simp [cI])
    clear h
    go_enter Try.func38, Try.ntmps38
    go_wp2_with fail
    refine isNaN_c.mono ?_
    rintro e w1 ⟨rfl, rfl⟩
    go_wp2_with fail
    refine isNaN_c.mono ?_
    rintro e w2 ⟨rfl, rfl⟩
    go_wp2
    go_ret
    rw [HF.out]
    exact ⟨rfl, rfl⟩
  · have h1 : decide (a < b) = false := decide_eq_false (by omega)
    have h2 : decide (b < a) = true := decide_eq_true h
    have HF := hid (show cI a b = 1 by simp [cI, h]; omega)
    clear h
    go_enter Try.func38, Try.ntmps38
    go_wp2_with fail
    refine isNaN_c.mono ?_
    rintro e w1 ⟨rfl, rfl⟩
    go_wp2_with fail
    refine isNaN_c.mono ?_
    rintro e w2 ⟨rfl, rfl⟩
    go_wp2
    go_ret
    rw [HF.out]
    exact ⟨rfl, rfl⟩
theorem or_c (w : World) (g : Nat) (x y : Int) (h0 : w.cell? ⟨g, 0, none⟩ = some (.int .i64 x)) (h1 : w.cell? ⟨g, 1, none⟩ = some (.int .i64 y)) :
    Calls Try.prog 37 #[.slice (some ⟨g, 0, none⟩) 2 2] w fun e w' => e = .returned (.int .i64 (orI x y)) ∧ w' = w := by
  by_cases hx : x = 0
  · have HF := hid (show orI x y = y by simp [orI, hx])
    subst hx
    go_enter Try.func37, Try.ntmps37
    go_wp2
    refine wp_loop_rounds 3 ?_
    rw [rounds_succ]
    by_cases hy : y = 0
    · subst hy
      go_wp2
      rw [rounds_succ]
      go_wp2
      rw [rounds_succ]
      go_wp2
      go_ret
      rw [HF.out]
      exact ⟨rfl, rfl⟩
    · have hy' : (y != 0) = true := by simp [hy]
      go_wp2
      rw [rounds_succ]
      go_wp2
      go_ret
      rw [HF.out]
      exact ⟨rfl, rfl⟩
  · have HF := hid (show orI x y = x by simp [orI, hx])
    have hx' : (x != 0) = true := by simp [hx]
    go_enter Try.func37, Try.ntmps37
    go_wp2
    refine wp_loop_rounds 1 ?_
    rw [rounds_succ]
    go_wp2
    go_ret
    rw [HF.out]
    exact ⟨rfl, rfl⟩
theorem cell_n0 {w0 : World} {g : Nat} {u v : Value} {e : TypeId} (h : g = w0.heap.size) : ((w0.alloc (.cells #[u, v] e)).drew).cell? ⟨g, 0, none⟩ = some u := by
  subst h
  show (w0.alloc (.cells #[u, v] e)).cell? _ = _
  simp only [World.cell?, (MapKept.heap_alloc w0 _).1]
  rfl
theorem cell_n1 {w0 : World} {g : Nat} {u v : Value} {e : TypeId} (h : g = w0.heap.size) : ((w0.alloc (.cells #[u, v] e)).drew).cell? ⟨g, 1, none⟩ = some v := by
  subst h
  show (w0.alloc (.cells #[u, v] e)).cell? _ = _
  simp only [World.cell?, (MapKept.heap_alloc w0 _).1]
  rfl
theorem kCa {w : World} {a : Addr} {v : Value} {o : Obj} (h : w.cell? a = some v) : (w.alloc o).cell? a = some v := (World.cell?_alloc_lt _ _ _ (World.block_lt_of_cell? w a h)).trans h
theorem kCd {w : World} {a : Addr} {v : Value} (h : w.cell? a = some v) : w.drew.cell? a = some v := h
theorem grown_drew (w : World) (q : Nat) (os : Array Obj) : (grow (w.drewN q) os).drew = grow (w.drewN (q + 1)) os := rfl
set_option maxRecDepth 100000 in
set_option maxHeartbeats 4000000 in
theorem cmp_c (w : World) (a b : Int × Int) : Calls Try.prog 26 #[.agg #[.int .i64 a.1, .int .i64 a.2], .agg #[.int .i64 b.1, .int .i64 b.2]] w fun e w' => e = .returned (.int .i64 (cmpI a b)) ∧ ∃ q os, w' = grow (w.drewN q) os := by
  obtain ⟨a1, a2⟩ := a
  obtain ⟨b1, b2⟩ := b
  have hc := hid (fun W x y => compare_c W x y)
  have ho := hid (fun W g x y h0 h1 => or_c W g x y h0 h1)
  go_enter Try.func26, Try.ntmps26
  go_wp2_with fail
  have k0 : ((w.alloc (.cells #[.int .i64 a1, .int .i64 a2] 40)).alloc (.cells #[.int .i64 b1, .int .i64 b2] 40)).cell? ⟨w.heap.size, 0, none⟩ = some (.int .i64 a1) := kCa (cell_n0 (w0 := w) rfl)
  have k1 : ((w.alloc (.cells #[.int .i64 a1, .int .i64 a2] 40)).alloc (.cells #[.int .i64 b1, .int .i64 b2] 40)).cell? ⟨w.heap.size, 1, none⟩ = some (.int .i64 a2) := kCa (cell_n1 (w0 := w) rfl)
  have k2 : ((w.alloc (.cells #[.int .i64 a1, .int .i64 a2] 40)).alloc (.cells #[.int .i64 b1, .int .i64 b2] 40)).cell? ⟨w.heap.size + 1, 0, none⟩ = some (.int .i64 b1) := cell_n0 (w0 := w.alloc _) (by simp)
  have k3 : ((w.alloc (.cells #[.int .i64 a1, .int .i64 a2] 40)).alloc (.cells #[.int .i64 b1, .int .i64 b2] 40)).cell? ⟨w.heap.size + 1, 1, none⟩ = some (.int .i64 b2) := cell_n1 (w0 := w.alloc _) (by simp)
  have HG := hid (show ∃ q os, ((w.alloc (.cells #[.int .i64 a1, .int .i64 a2] 40)).alloc (.cells #[.int .i64 b1, .int .i64 b2] 40)) = grow (w.drewN q) os from ⟨0, _, by rw [alloc_eq_grow, alloc_eq_grow, grow_grow]; rfl⟩)
  generalize (w.alloc (.cells #[.int .i64 a1, .int .i64 a2] 40)).alloc (.cells #[.int .i64 b1, .int .i64 b2] 40) = w1 at *
  generalize w.heap.size = B at *
  generalize B + 1 = C at *
  refine wp_region_held_drew (S := (fun w' => w'.cell? ⟨B, 0, none⟩ = some (.int .i64 a1) ∧ w'.cell? ⟨B, 1, none⟩ = some (.int .i64 a2) ∧ w'.cell? ⟨C, 0, none⟩ = some (.int .i64 b1) ∧ w'.cell? ⟨C, 1, none⟩ = some (.int .i64 b2))) (by kernel_rfl) ?_ (fun hHeld => ?_)
  · (refine ⟨?_, ?_, ?_, ?_⟩ <;> repeat (with_reducible first | assumption | refine kCd ?_))
  refine wpAnyH_take (i := 0) (v := ?_) rfl (by kernel_rfl) (by kernel_rfl) (by kernel_rfl) (fun _ _ _ h => h) (Or.inl ⟨by rfl, ?_⟩) (by assumption) ?_
  rotate_left
  (focus (intro w0 hSw; (try dsimp only at hSw); go_simp <;> with_reducible rfl))
  simp only [List.getElem_toArray, List.getElem_cons_zero, Act.put, List.setIfInBounds_toArray, List.set_cons_zero, List.set_cons_succ]
  refine wpAnyH_take (i := 1) (v := ?_) rfl (by kernel_rfl) (by kernel_rfl) (by kernel_rfl) (fun _ _ _ h => h) (Or.inl ⟨by rfl, ?_⟩) (by assumption) ?_
  rotate_left
  (focus (intro w0 hSw; (try dsimp only at hSw); go_simp <;> with_reducible rfl))
  simp only [List.getElem_toArray, List.getElem_cons_succ, List.getElem_cons_zero, Act.put, List.setIfInBounds_toArray, List.set_cons_zero, List.set_cons_succ]
  refine wpAnyH_take (i := 2) (v := ?_) rfl (by kernel_rfl) (by kernel_rfl) (by kernel_rfl) (fun _ _ _ h => h) (Or.inl ⟨by rfl, ?_⟩) (by assumption) ?_
  rotate_left
  (focus (intro w0 hSw; (try dsimp only at hSw); go_simp <;> with_reducible rfl))
  simp only [List.getElem_toArray, List.getElem_cons_succ, List.getElem_cons_zero, Act.put, List.setIfInBounds_toArray, List.set_cons_zero, List.set_cons_succ]
  refine wpAnyH_take (i := 3) (v := ?_) rfl (by kernel_rfl) (by kernel_rfl) (by kernel_rfl) (fun _ _ _ h => h) (Or.inl ⟨by rfl, ?_⟩) (by assumption) ?_
  rotate_left
  (focus (intro w0 hSw; (try dsimp only at hSw); go_simp <;> with_reducible rfl))
  simp only [List.getElem_toArray, List.getElem_cons_succ, List.getElem_cons_zero, Act.put, List.setIfInBounds_toArray, List.set_cons_zero, List.set_cons_succ]
  refine wpAnyH_take (i := 5) (v := ?_) rfl (by kernel_rfl) (by kernel_rfl) (by kernel_rfl) (fun _ _ _ h => h) (Or.inl ⟨by rfl, ?_⟩) (by assumption) ?_
  rotate_left
  (focus (intro w0 hSw; (try dsimp only at hSw); go_simp <;> with_reducible rfl))
  simp only [List.getElem_toArray, List.getElem_cons_succ, List.getElem_cons_zero, Act.put, List.setIfInBounds_toArray, List.set_cons_zero, List.set_cons_succ]
  refine wpAnyH_take (i := 6) (v := ?_) rfl (by kernel_rfl) (by kernel_rfl) (by kernel_rfl) (fun _ _ _ h => h) (Or.inl ⟨by rfl, ?_⟩) (by assumption) ?_
  rotate_left
  (focus (intro w0 hSw; (try dsimp only at hSw); go_simp <;> with_reducible rfl))
  simp only [List.getElem_toArray, List.getElem_cons_succ, List.getElem_cons_zero, Act.put, List.setIfInBounds_toArray, List.set_cons_zero, List.set_cons_succ]
  refine wpAnyH_take (i := 7) (v := ?_) rfl (by kernel_rfl) (by kernel_rfl) (by kernel_rfl) (fun _ _ _ h => h) (Or.inl ⟨by rfl, ?_⟩) (by assumption) ?_
  rotate_left
  (focus (intro w0 hSw; (try dsimp only at hSw); go_simp <;> with_reducible rfl))
  simp only [List.getElem_toArray, List.getElem_cons_succ, List.getElem_cons_zero, Act.put, List.setIfInBounds_toArray, List.set_cons_zero, List.set_cons_succ]
  refine wpAnyH_take (i := 8) (v := ?_) rfl (by kernel_rfl) (by kernel_rfl) (by kernel_rfl) (fun _ _ _ h => h) (Or.inl ⟨by rfl, ?_⟩) (by assumption) ?_
  rotate_left
  (focus (intro w0 hSw; (try dsimp only at hSw); go_simp <;> with_reducible rfl))
  simp only [List.getElem_toArray, List.getElem_cons_succ, List.getElem_cons_zero, Act.put, List.setIfInBounds_toArray, List.set_cons_zero, List.set_cons_succ]
  refine wpAnyH_ready (rs := [4]) (by kernel_rfl) (by simp) ?_
  refine AllReadyH.cons (o := _) rfl (fun K hK => ?_) ?_
  rotate_left
  exact AllReadyH.nil
  go_simp
  refine (hc.out _ _ _).mono ?_
  rintro e w2 ⟨rfl, rfl⟩
  refine hK.out _ _ ?_ (fun hH1 => ?_)
  · ((try dsimp only); (refine ⟨?_, ?_, ?_, ?_⟩ <;> repeat (with_reducible first | assumption | refine kCd ?_ | refine kCa ?_)))
  clear hK K
  try simp only [Act.put, List.setIfInBounds_toArray, List.set_cons_zero, List.set_cons_succ]
  refine wpAnyH_ready (rs := [9]) (by kernel_rfl) (by simp) ?_
  refine AllReadyH.cons (o := _) rfl (fun K hK => ?_) ?_
  rotate_left
  exact AllReadyH.nil
  go_simp
  refine (hc.out _ _ _).mono ?_
  rintro e w3 ⟨rfl, rfl⟩
  refine hK.out _ _ ?_ (fun hH2 => ?_)
  · ((try dsimp only); (refine ⟨?_, ?_, ?_, ?_⟩ <;> repeat (with_reducible first | assumption | refine kCd ?_ | refine kCa ?_)))
  clear hK K
  try simp only [Act.put, List.setIfInBounds_toArray, List.set_cons_zero, List.set_cons_succ]
  refine wpAnyH_ready (rs := [10]) (by kernel_rfl) (by simp) ?_
  refine AllReadyH.cons (o := _) rfl (fun K hK => ?_) ?_
  rotate_left
  exact AllReadyH.nil
  go_simp
  refine hK.out _ _ ?_ (fun hH3 => ?_)
  · ((try dsimp only); (refine ⟨?_, ?_, ?_, ?_⟩ <;> repeat (with_reducible first | assumption | refine kCd ?_ | refine kCa ?_)))
  clear hK K
  try simp only [Act.put, List.setIfInBounds_toArray, List.set_cons_zero, List.set_cons_succ]
  refine wpAnyH_ready (rs := [11]) (by kernel_rfl) (by simp) ?_
  refine AllReadyH.cons (o := _) rfl (fun K hK => ?_) ?_
  rotate_left
  exact AllReadyH.nil
  go_simp
  refine (ho.out _ _ (cI a2 b2) (cI a1 b1) (cell_n0 rfl) (cell_n1 rfl)).mono ?_
  rintro e w4 ⟨rfl, rfl⟩
  refine hK.out _ _ ?_ (fun hH4 => ?_)
  · ((try dsimp only); (refine ⟨?_, ?_, ?_, ?_⟩ <;> repeat (with_reducible first | assumption | refine kCd ?_ | refine kCa ?_)))
  clear hK K
  try simp only [Act.put, List.setIfInBounds_toArray, List.set_cons_zero, List.set_cons_succ]
  refine wpAnyH_ready (rs := [12]) (by kernel_rfl) (by simp) ?_
  refine AllReadyH.cons (o := _) rfl (fun K hK => ?_) ?_
  rotate_left
  exact AllReadyH.nil
  go_simp
  refine hK.out _ _ ?_ (fun hH5 => ?_)
  · ((try dsimp only); (refine ⟨?_, ?_, ?_, ?_⟩ <;> repeat (with_reducible first | assumption | refine kCd ?_ | refine kCa ?_)))
  clear hK K
  try simp only [Act.put, List.setIfInBounds_toArray, List.set_cons_zero, List.set_cons_succ]
  refine wpAnyH_done (by kernel_rfl) ?_ _
  go_wp2
  go_ret
  refine ⟨rfl, ?_⟩
  obtain ⟨q, os, rfl⟩ := HG.out
  exact ⟨q + 1, _, by rw [alloc_eq_grow, grow_grow]; rfl⟩
end Go.Proofs.Ytacgkgbhleehjaa
namespace Go.Proofs.Ytacgkgbhleehjaa
open Go.RowKit Go.Sort

/-- Where each number stands. -/
def plR (n : Nat) (d : Nat → Int × Int) : Int → Int → Prop := fun k v => ∃ i, i < n ∧ (d i).1 = k ∧ v = (i : Int)
/-- Block g is a row of items with room for cap; the first n are d. -/
structure Ro (w : World) (g cap n : Nat) (d : Nat → Int × Int) : Prop where
  blk : ∃ cur, w.heap[g]? = some (.cells cur 40 (0, 0)) ∧ cur.size = cap * 2
  c0 : ∀ i, i < n → w.cell? ⟨g, i * 2, none⟩ = some (.int .i64 (d i).1)
  c1 : ∀ i, i < n → w.cell? ⟨g, i * 2 + 1, none⟩ = some (.int .i64 (d i).2)
/-- A queue that has a row and a map: its struct at block q, the row at g, the map at m. -/
structure Qi (w : World) (q g cap m n : Nat) (d : Nat → Int × Int) : Prop where
  st : w.heap[q]? = some (.cells #[.slice (some ⟨g, 0, none⟩) n cap, .map (some m)] 50 (0, 0))
  ro : Ro w g cap n d
  le : n ≤ cap
  top : cap ≤ 9223372036854775807
  lim : n ≤ 1000000
  mp : Mp w m (plR n d)
  inj : ∀ i j, i < n → j < n → (d i).1 = (d j).1 → i = j
theorem Qi.row {w q g cap m n d} (h : Qi w q g cap m n d) : ∃ cur, w.heap[g]? = some (.cells cur 40 (0, 0)) ∧ cur.size = cap * 2 := h.ro.blk
theorem Qi.c0 {w q g cap m n d} (h : Qi w q g cap m n d) : ∀ i, i < n → w.cell? ⟨g, i * 2, none⟩ = some (.int .i64 (d i).1) := h.ro.c0
theorem Qi.c1 {w q g cap m n d} (h : Qi w q g cap m n d) : ∀ i, i < n → w.cell? ⟨g, i * 2 + 1, none⟩ = some (.int .i64 (d i).2) := h.ro.c1
theorem Ro.of {w w' g cap n d} (h : Ro w g cap n d) (hg : w'.heap[g]? = w.heap[g]?) : Ro w' g cap n d :=
  ⟨by obtain ⟨cur, h1, h2⟩ := h.blk; exact ⟨cur, hg.trans h1, h2⟩, fun i hi => (World.cell?_of_block (a := ⟨g, i * 2, none⟩) hg).trans (h.c0 i hi), fun i hi => (World.cell?_of_block (a := ⟨g, i * 2 + 1, none⟩) hg).trans (h.c1 i hi)⟩
theorem Ro.congr {w g cap n d d'} (h : Ro w g cap n d) (e : ∀ i, i < n → d' i = d i) : Ro w g cap n d' :=
  ⟨h.blk, fun i hi => by rw [e i hi]; exact h.c0 i hi, fun i hi => by rw [e i hi]; exact h.c1 i hi⟩
/-- One item turned. -/
def upf (d : Nat → Int × Int) (i : Nat) (p : Int × Int) : Nat → Int × Int := fun k => if k = i then p else d k
theorem upf_at (d : Nat → Int × Int) (i : Nat) (p : Int × Int) : upf d i p i = p := by simp [upf]
theorem upf_ne {d : Nat → Int × Int} {i k : Nat} {p : Int × Int} (h : k ≠ i) : upf d i p k = d k := by simp [upf, h]
theorem set_blk {w : World} {g o cap : Nat} {t : TypeId} {v : Value} (h : ∃ cur, w.heap[g]? = some (.cells cur t (0, 0)) ∧ cur.size = cap) : ∃ cur, (w.setCell ⟨g, o, none⟩ v).heap[g]? = some (.cells cur t (0, 0)) ∧ cur.size = cap := by
  obtain ⟨cur, h1, h2⟩ := h
  refine ⟨cur.setIfInBounds o v, ?_, by simp [h2]⟩
  simp [World.setCell, Array.getElem?_modify, h1]
theorem Ro.put {w g cap n d} (h : Ro w g cap n d) {i : Nat} (hi : i < n) (p : Int × Int) : Ro ((w.setCell ⟨g, i * 2, none⟩ (.int .i64 p.1)).setCell ⟨g, i * 2 + 1, none⟩ (.int .i64 p.2)) g cap n (upf d i p) := by
  refine ⟨set_blk (set_blk h.blk), fun k hk => ?_, fun k hk => ?_⟩
  · rw [World.cell?_setCell_other _ _ _ _ (by simp <;> omega)]
    by_cases e : k = i
    · subst e; rw [upf_at]; exact World.cell?_setCell_same _ _ _ (h.c0 k hk)
    · rw [upf_ne e, World.cell?_setCell_other _ _ _ _ (by simp <;> omega)]; exact h.c0 k hk
  · by_cases e : k = i
    · subst e; rw [upf_at]
      exact World.cell?_setCell_same _ _ _ (by rw [World.cell?_setCell_other _ _ _ _ (by simp)]; exact h.c1 k hk)
    · rw [upf_ne e, World.cell?_setCell_other _ _ _ _ (by simp <;> omega), World.cell?_setCell_other _ _ _ _ (by simp <;> omega)]; exact h.c1 k hk
theorem swf_up (d : Nat → Int × Int) (i j k : Nat) : upf (upf d i (d j)) j (d i) k = swf d i j k := by
  unfold upf swf
  by_cases e1 : k = j
  · subst e1
    by_cases e2 : k = i
    · subst e2; simp
    · simp [e2]
  · by_cases e2 : k = i
    · subst e2; simp [e1]
    · simp [e1, e2]
theorem cells_at {w : World} {q : Nat} {u v : Value} {t : TypeId} {fr : Nat × Nat} (h : w.heap[q]? = some (.cells #[u, v] t fr)) : w.cell? ⟨q, 0, none⟩ = some u ∧ w.cell? ⟨q, 1, none⟩ = some v := by
  constructor <;> simp [World.cell?, h]
theorem free_at {w : World} {q o : Nat} {c : Array Value} {t : TypeId} (h : w.heap[q]? = some (.cells c t (0, 0))) : w.frozen? ⟨q, o, none⟩ = false := by
  simp [World.frozen?, h]
theorem Qi.f0 {w q g cap m n d} (h : Qi w q g cap m n d) : w.cell? ⟨q, 0, none⟩ = some (.slice (some ⟨g, 0, none⟩) n cap) := (cells_at h.st).1
theorem Qi.f1 {w q g cap m n d} (h : Qi w q g cap m n d) : w.cell? ⟨q, 1, none⟩ = some (.map (some m)) := (cells_at h.st).2
theorem Qi.fr {w q g cap m n d} (h : Qi w q g cap m n d) (o : Nat) : w.frozen? ⟨g, o, none⟩ = false := by
  obtain ⟨cur, h1, _⟩ := h.row; exact free_at h1
theorem Qi.qf {w q g cap m n d} (h : Qi w q g cap m n d) (o : Nat) : w.frozen? ⟨q, o, none⟩ = false := free_at h.st
theorem Qi.qg {w q g cap m n d} (h : Qi w q g cap m n d) : q ≠ g := by
  rintro rfl
  obtain ⟨cur, h1, _⟩ := h.row
  rw [h.st] at h1
  injection h1 with h2
  injection h2 with _ h3
  exact absurd h3 (by decide)
theorem Qi.qm {w q g cap m n d} (h : Qi w q g cap m n d) : q ≠ m := by
  rintro rfl
  obtain ⟨es, c, h1, _⟩ := h.mp
  rw [h.st] at h1
  cases h1
theorem Qi.gm {w q g cap m n d} (h : Qi w q g cap m n d) : g ≠ m := by
  rintro rfl
  obtain ⟨es, c, h1, _⟩ := h.mp
  obtain ⟨cur, h2, _⟩ := h.row
  rw [h2] at h1
  cases h1
/-- It stays while its three blocks do. -/
theorem Qi.of {w w' q g cap m n d} (h : Qi w q g cap m n d) (hq : w'.heap[q]? = w.heap[q]?) (hg : w'.heap[g]? = w.heap[g]?) (hm : w'.heap[m]? = w.heap[m]?) : Qi w' q g cap m n d :=
  ⟨hq.trans h.st, h.ro.of hg, h.le, h.top, h.lim, h.mp.of hm, h.inj⟩
theorem Qi.lt {w q g cap m n d} (h : Qi w q g cap m n d) : q < w.heap.size ∧ g < w.heap.size ∧ m < w.heap.size := by
  obtain ⟨cur, h1, _⟩ := h.row
  exact ⟨(Array.getElem?_eq_some_iff.1 h.st).1, (Array.getElem?_eq_some_iff.1 h1).1, h.mp.lt⟩
theorem Qi.below {w w' q g cap m n d} (h : Qi w q g cap m n d) (hb : Below w.heap.size w w') : Qi w' q g cap m n d :=
  h.of (hb.block q h.lt.1) (hb.block g h.lt.2.1) (hb.block m h.lt.2.2)
theorem below_grow (w : World) (k : Nat) (os : Array Obj) : Below w.heap.size w (grow (w.drewN k) os) :=
  ⟨rfl, rfl, rfl, by show w.heap.size ≤ (w.heap ++ os).size; simp, fun i hi => by
    show (w.heap ++ os)[i]? = _
    rw [Array.getElem?_append_left hi]⟩
theorem kCg {w : World} {a : Addr} {v : Value} {k : Nat} {os : Array Obj} (h : w.cell? a = some v) : (grow (w.drewN k) os).cell? a = some v :=
  ((below_grow w k os).cell (World.block_lt_of_cell? w a h)).trans h
theorem len_c {w : World} {q : Nat} {ao : Option Addr} {n cap : Nat} (h : w.cell? ⟨q, 0, none⟩ = some (.slice ao n cap)) :
    Calls Try.prog 27 #[.pointer (some ⟨q, 0, none⟩)] w fun e w' => e = .returned (.int .i64 n) ∧ w' = w := by
  go_enter Try.func27, Try.ntmps27
  go_wp2
  go_ret
  exact ⟨rfl, rfl⟩
set_option maxRecDepth 100000 in
set_option maxHeartbeats 4000000 in
theorem less_c {w : World} {q g cap m n : Nat} {d : Nat → Int × Int} (h : Qi w q g cap m n d) {i j : Nat} (hi : i < n) (hj : j < n) :
    Calls Try.prog 75 #[.pointer (some ⟨q, 0, none⟩), .int .i64 i, .int .i64 j] w fun e w' => e = .returned (.bool (decide (cmpI (d i) (d j) < 0))) ∧ Below w.heap.size w w' := by
  have hc := hid (fun W => cmp_c W (d i) (d j))
  have f0 := h.f0
  have a0 := h.c0 i hi; have a1 := h.c1 i hi; have b0 := h.c0 j hj; have b1 := h.c1 j hj
  have hi' : (i : Int) < n := by omega
  have hj' : (j : Int) < n := by omega
  generalize cmpI (d i) (d j) = r at *
  generalize hdi : d i = x at *
  generalize hdj : d j = y at *
  obtain ⟨x0, x1⟩ := x
  obtain ⟨y0, y1⟩ := y
  clear h hdi hdj
  go_enter Try.func75, Try.ntmps75
  go_wp2_with fail
  go_region_held3 (fun w' => w'.cell? ⟨q, 0, none⟩ = some (.slice (some ⟨g, 0, none⟩) n cap) ∧ w'.cell? ⟨g, i * 2, none⟩ = some (.int .i64 x0) ∧ w'.cell? ⟨g, i * 2 + 1, none⟩ = some (.int .i64 x1) ∧ w'.cell? ⟨g, j * 2, none⟩ = some (.int .i64 y0) ∧ w'.cell? ⟨g, j * 2 + 1, none⟩ = some (.int .i64 y1))
    (refine ⟨?_, ?_, ?_, ?_, ?_⟩ <;> repeat (with_reducible first | assumption | refine kCd ?_ | refine kCg ?_))
    (first | (go_at_call 26; with_reducible refine (hc.out _).mono ?_; rintro e w1 ⟨rfl, q1, os1, rfl⟩))
  go_wp2
  go_ret
  exact ⟨rfl, below_grow _ _ _⟩
--SWAP
theorem kCs1 {w : World} {a b : Addr} {v u : Value} (hne : a.block ≠ b.block) (h : w.cell? b = some u) : (w.setCell a v).cell? b = some u := (World.cell?_setCell_other w a b v (fun e => hne (by rw [e]))).trans h
theorem kCo {w w' : World} {b : Nat} {a : Addr} {v : Value} (ho : One b w w') (hne : a.block ≠ b) (h : w.cell? a = some v) : w'.cell? a = some v := (World.cell?_of_block (a := a) (ho.block a.block hne)).trans h
/-- What has turned lies in F, or is new. -/
structure Tn (F : Nat → Prop) (w w' : World) : Prop where
  os : w'.os = w.os
  tape : w'.tape = w.tape
  output : w'.output = w.output
  size : w.heap.size ≤ w'.heap.size
  block : ∀ k, k < w.heap.size → ¬ F k → w'.heap[k]? = w.heap[k]?
theorem one_refl (b : Nat) (w : World) : One b w w.drew := ⟨rfl, rfl, rfl, rfl, fun _ _ => rfl⟩
theorem One.set {b : Nat} {w w' : World} (h : One b w w') (o : Nat) (v : Value) : One b w (w'.setCell ⟨b, o, none⟩ v) :=
  ⟨h.os, h.tape, h.output, by simp [World.setCell, h.size], fun k hk => (Below.heap_setCell _ _ _ _ hk).trans (h.block k hk)⟩
theorem putR_has {n : Nat} {d : Nat → Int × Int} {i : Nat} {x y : Int} (h : plR n d x i) : ∃ v, putR (plR n d) y i x v := by
  by_cases e : x = y
  · exact ⟨i, .inl ⟨e, rfl⟩⟩
  · exact ⟨i, .inr ⟨e, h⟩⟩
theorem plR_swap {n : Nat} {d : Nat → Int × Int} {i j : Nat} (hi : i < n) (hj : j < n) (inj : ∀ i j, i < n → j < n → (d i).1 = (d j).1 → i = j) (k v : Int) : plR n (swf d i j) k v ↔ putR (putR (plR n d) (d j).1 i) (d i).1 j k v := by
  constructor
  · rintro ⟨t, ht, e1, e2⟩
    by_cases h1 : t = j
    · subst h1; rw [swf_r] at e1; exact .inl ⟨e1.symm, e2⟩
    · by_cases h2 : t = i
      · subst h2; rw [swf_l] at e1
        refine .inr ⟨fun e => h1 (inj _ _ hj ht (e1.trans e)).symm, .inl ⟨e1.symm, e2⟩⟩
      · rw [swf_ne h2 h1] at e1
        exact .inr ⟨fun e => h2 (inj _ _ ht hi (e1.trans e)), .inr ⟨fun e => h1 (inj _ _ ht hj (e1.trans e)), ⟨t, ht, e1, e2⟩⟩⟩
  · rintro (⟨e1, e2⟩ | ⟨n1, ⟨e1, e2⟩ | ⟨n2, t, ht, e1, e2⟩⟩)
    · exact ⟨j, hj, by rw [swf_r]; exact e1.symm, e2⟩
    · exact ⟨i, hi, by rw [swf_l]; exact e1.symm, e2⟩
    · refine ⟨t, ht, ?_, e2⟩
      rw [swf_ne (fun e => n1 (by subst e; exact e1.symm)) (fun e => n2 (by subst e; exact e1.symm))]
      exact e1
theorem inj_swap {n : Nat} {d : Nat → Int × Int} {i j : Nat} (hi : i < n) (hj : j < n) (inj : ∀ i j, i < n → j < n → (d i).1 = (d j).1 → i = j) : ∀ a b, a < n → b < n → (swf d i j a).1 = (swf d i j b).1 → a = b := by
  intro a b ha hb he
  rw [swf_at, swf_at] at he
  have hb' : ∀ k, k < n → (if k = i then j else if k = j then i else k) < n := fun k hk => by
    split
    · exact hj
    · split
      · exact hi
      · exact hk
  have := inj _ _ (hb' a ha) (hb' b hb) he
  by_cases e1 : a = i <;> by_cases e2 : b = i <;> by_cases e3 : a = j <;> by_cases e4 : b = j <;> simp_all <;> omega
theorem swap_done {w w2 w3 w4 : World} {q g cap m n i j : Nat} {d : Nat → Int × Int} {x0 x1 y0 y1 : Int} (h : Qi w q g cap m n d) (hi : i < n) (hj : j < n) (ei : d i = (x0, x1)) (ej : d j = (y0, y1)) (hr : Ro w2 g cap n (swf d i j)) (o2 : One g w w2)
    (hm : Mp w4 m (putR (putR (plR n d) y0 i) x0 j)) (o3 : One m w2.drew w3) (o4 : One m w3 w4) : Qi w4 q g cap m n (swf d i j) ∧ Tn (fun k => k = g ∨ k = m) w w4 := by
  have b4 : ∀ k, k ≠ m → w4.heap[k]? = w2.heap[k]? := fun k hk => (o4.block k hk).trans (o3.block k hk)
  refine ⟨⟨((b4 q h.qm).trans (o2.block q h.qg)).trans h.st, hr.of (b4 g h.gm), h.le, h.top, h.lim, hm.congr (fun k v => ?_), inj_swap hi hj h.inj⟩, ?_⟩
  · rw [plR_swap hi hj h.inj, ei, ej]
  · refine ⟨(o4.os.trans o3.os).trans o2.os, (o4.tape.trans o3.tape).trans o2.tape, (o4.output.trans o3.output).trans o2.output, ?_, fun k _ hk => ?_⟩
    · have h1 := o4.size; have h2 := o3.size; have h3 := o2.size
      have : w2.drew.heap.size = w2.heap.size := rfl
      omega
    · exact (b4 k (fun e => hk (.inr e))).trans (o2.block k (fun e => hk (.inl e)))
set_option maxRecDepth 100000 in
set_option maxHeartbeats 8000000 in
theorem swap_c {w : World} {q g cap m n : Nat} {d : Nat → Int × Int} (h : Qi w q g cap m n d) {i j : Nat} (hi : i < n) (hj : j < n) :
    Calls Try.prog 78 #[.pointer (some ⟨q, 0, none⟩), .int .i64 i, .int .i64 j] w fun e w' => e = .returned (.tuple #[]) ∧ Qi w' q g cap m n (swf d i j) ∧ Tn (fun k => k = g ∨ k = m) w w' := by
  have HQ := hid h
  replace h : Qi w.drew q g cap m n d := h.of rfl rfl rfl
  have f0 := h.f0
  have a0 := h.c0 i hi; have a1 := h.c1 i hi; have b0 := h.c0 j hj; have b1 := h.c1 j hj
  have hi' : (i : Int) < n := by omega
  have hj' : (j : Int) < n := by omega
  have hgq : g ≠ q := fun e => h.qg e.symm
  have z0 := h.fr (i * 2); have z1 := h.fr (i * 2 + 1)
  have RO := hid h.ro
  obtain ⟨x0, hx0⟩ : ∃ x, (d i).1 = x := ⟨_, rfl⟩
  obtain ⟨x1, hx1⟩ : ∃ x, (d i).2 = x := ⟨_, rfl⟩
  obtain ⟨y0, hy0⟩ : ∃ x, (d j).1 = x := ⟨_, rfl⟩
  obtain ⟨y1, hy1⟩ : ∃ x, (d j).2 = x := ⟨_, rfl⟩
  rw [hx0] at a0; rw [hx1] at a1; rw [hy0] at b0; rw [hy1] at b1
  have ej : d j = (y0, y1) := by rw [← hy0, ← hy1]
  have ei : d i = (x0, x1) := by rw [← hx0, ← hx1]
  have R1 := RO.out.put hi (y0, y1)
  obtain ⟨u0, p0⟩ : ∃ u, ((w.drew.setCell ⟨g, i * 2, none⟩ (.int .i64 y0)).setCell ⟨g, i * 2 + 1, none⟩ (.int .i64 y1)).cell? ⟨g, j * 2, none⟩ = some u := ⟨_, R1.c0 j hj⟩
  obtain ⟨u1, p1⟩ : ∃ u, ((w.drew.setCell ⟨g, i * 2, none⟩ (.int .i64 y0)).setCell ⟨g, i * 2 + 1, none⟩ (.int .i64 y1)).cell? ⟨g, j * 2 + 1, none⟩ = some u := ⟨_, R1.c1 j hj⟩
  have z2 : ((w.drew.setCell ⟨g, i * 2, none⟩ (.int .i64 y0)).setCell ⟨g, i * 2 + 1, none⟩ (.int .i64 y1)).frozen? ⟨g, j * 2, none⟩ = false := by obtain ⟨cur, e1, _⟩ := R1.blk; exact free_at e1
  have z3 : ((w.drew.setCell ⟨g, i * 2, none⟩ (.int .i64 y0)).setCell ⟨g, i * 2 + 1, none⟩ (.int .i64 y1)).frozen? ⟨g, j * 2 + 1, none⟩ = false := by obtain ⟨cur, e1, _⟩ := R1.blk; exact free_at e1
  have R2 := hid ((R1.put hj (x0, x1)).congr (d' := swf d i j) (fun k _ => by rw [← swf_up, ← ej, ← ei]))
  have O2 := hid (((((one_refl g w).set (i * 2) (.int .i64 y0)).set (i * 2 + 1) (.int .i64 y1)).set (j * 2) (.int .i64 x0)).set (j * 2 + 1) (.int .i64 x1))
  clear R1 RO hx0 hx1 hy0 hy1
  clear h
  go_enter Try.func78, Try.ntmps78
  go_wp2_with fail
  refine wp_region_held_drew (S := (fun w' => w'.cell? ⟨q, 0, none⟩ = some (.slice (some ⟨g, 0, none⟩) n cap))) (by kernel_rfl) ?_ (fun hHeld => ?_)
  · (repeat (with_reducible first | assumption | refine kCd ?_))
  generalize w.drew = w0 at *
  refine wpAnyH_take (i := 0) (v := ?_) rfl (by kernel_rfl) (by kernel_rfl) (by kernel_rfl) (fun _ _ _ h => h) (Or.inl ⟨by rfl, ?_⟩) (by assumption) ?_
  rotate_left
  (focus (intro w0 hSw; (try dsimp only at hSw); go_simp <;> with_reducible rfl))
  simp only [List.getElem_toArray, List.getElem_cons_zero, Act.put, List.setIfInBounds_toArray, List.set_cons_zero, List.set_cons_succ]
  refine wpAnyH_take (i := 1) (v := ?_) rfl (by kernel_rfl) (by kernel_rfl) (by kernel_rfl) (fun _ _ _ h => h) (Or.inl ⟨by rfl, ?_⟩) (by assumption) ?_
  rotate_left
  (focus (intro w0 hSw; (try dsimp only at hSw); go_simp <;> with_reducible rfl))
  simp only [List.getElem_toArray, List.getElem_cons_succ, List.getElem_cons_zero, Act.put, List.setIfInBounds_toArray, List.set_cons_zero, List.set_cons_succ]
  refine wpAnyH_take (i := 2) (v := ?_) rfl (by kernel_rfl) (by kernel_rfl) (by kernel_rfl) (fun _ _ _ h => h) (Or.inl ⟨by rfl, ?_⟩) (by assumption) ?_
  rotate_left
  (focus (intro w0 hSw; (try dsimp only at hSw); go_simp <;> with_reducible rfl))
  simp only [List.getElem_toArray, List.getElem_cons_succ, List.getElem_cons_zero, Act.put, List.setIfInBounds_toArray, List.set_cons_zero, List.set_cons_succ]
  refine wpAnyH_take (i := 3) (v := ?_) rfl (by kernel_rfl) (by kernel_rfl) (by kernel_rfl) (fun _ _ _ h => h) (Or.inl ⟨by rfl, ?_⟩) (by assumption) ?_
  rotate_left
  (focus (intro w0 hSw; (try dsimp only at hSw); go_simp <;> with_reducible rfl))
  simp only [List.getElem_toArray, List.getElem_cons_succ, List.getElem_cons_zero, Act.put, List.setIfInBounds_toArray, List.set_cons_zero, List.set_cons_succ]
  refine wpAnyH_take (i := 4) (v := ?_) rfl (by kernel_rfl) (by kernel_rfl) (by kernel_rfl) (fun _ _ _ h => h) (Or.inl ⟨by rfl, ?_⟩) (by assumption) ?_
  rotate_left
  (focus (intro w0 hSw; (try dsimp only at hSw); go_simp <;> with_reducible rfl))
  simp only [List.getElem_toArray, List.getElem_cons_succ, List.getElem_cons_zero, Act.put, List.setIfInBounds_toArray, List.set_cons_zero, List.set_cons_succ]
  refine wpAnyH_take (i := 5) (v := ?_) rfl (by kernel_rfl) (by kernel_rfl) (by kernel_rfl) (fun _ _ _ h => h) (Or.inl ⟨by rfl, ?_⟩) (by assumption) ?_
  rotate_left
  (focus (intro w0 hSw; (try dsimp only at hSw); go_simp <;> with_reducible rfl))
  simp only [List.getElem_toArray, List.getElem_cons_succ, List.getElem_cons_zero, Act.put, List.setIfInBounds_toArray, List.set_cons_zero, List.set_cons_succ]
  refine wpAnyH_take (i := 6) (v := ?_) rfl (by kernel_rfl) (by kernel_rfl) (by kernel_rfl) (fun _ _ _ h => h) (Or.inl ⟨by rfl, ?_⟩) (by assumption) ?_
  rotate_left
  (focus (intro w0 hSw; (try dsimp only at hSw); go_simp <;> with_reducible rfl))
  simp only [List.getElem_toArray, List.getElem_cons_succ, List.getElem_cons_zero, Act.put, List.setIfInBounds_toArray, List.set_cons_zero, List.set_cons_succ]
  refine wpAnyH_take (i := 7) (v := ?_) rfl (by kernel_rfl) (by kernel_rfl) (by kernel_rfl) (fun _ _ _ h => h) (Or.inl ⟨by rfl, ?_⟩) (by assumption) ?_
  rotate_left
  (focus (intro w0 hSw; (try dsimp only at hSw); go_simp <;> with_reducible rfl))
  simp only [List.getElem_toArray, List.getElem_cons_succ, List.getElem_cons_zero, Act.put, List.setIfInBounds_toArray, List.set_cons_zero, List.set_cons_succ]
  refine wpAnyH_take (i := 8) (v := ?_) rfl (by kernel_rfl) (by kernel_rfl) (by kernel_rfl) (fun _ _ _ h => h) (Or.inl ⟨by rfl, ?_⟩) (by assumption) ?_
  rotate_left
  (focus (intro w0 hSw; (try dsimp only at hSw); go_simp <;> with_reducible rfl))
  simp only [List.getElem_toArray, List.getElem_cons_succ, List.getElem_cons_zero, Act.put, List.setIfInBounds_toArray, List.set_cons_zero, List.set_cons_succ]
  refine wpAnyH_take (i := 9) (v := ?_) rfl (by kernel_rfl) (by kernel_rfl) (by kernel_rfl) (fun _ _ _ h => h) (Or.inl ⟨by rfl, ?_⟩) (by assumption) ?_
  rotate_left
  (focus (intro w0 hSw; (try dsimp only at hSw); go_simp <;> with_reducible rfl))
  simp only [List.getElem_toArray, List.getElem_cons_succ, List.getElem_cons_zero, Act.put, List.setIfInBounds_toArray, List.set_cons_zero, List.set_cons_succ]
  refine wpAnyH_take (i := 10) (v := ?_) rfl (by kernel_rfl) (by kernel_rfl) (by kernel_rfl) (fun _ _ _ h => h) (Or.inl ⟨by rfl, ?_⟩) (by assumption) ?_
  rotate_left
  (focus (intro w0 hSw; (try dsimp only at hSw); go_simp <;> with_reducible rfl))
  simp only [List.getElem_toArray, List.getElem_cons_succ, List.getElem_cons_zero, Act.put, List.setIfInBounds_toArray, List.set_cons_zero, List.set_cons_succ]
  refine wpAnyH_take (i := 11) (v := ?_) rfl (by kernel_rfl) (by kernel_rfl) (by kernel_rfl) (fun _ _ _ h => h) (Or.inl ⟨by rfl, ?_⟩) (by assumption) ?_
  rotate_left
  (focus (intro w0 hSw; (try dsimp only at hSw); go_simp <;> with_reducible rfl))
  simp only [List.getElem_toArray, List.getElem_cons_succ, List.getElem_cons_zero, Act.put, List.setIfInBounds_toArray, List.set_cons_zero, List.set_cons_succ]
  refine wpAnyH_take (i := 12) (v := ?_) rfl (by kernel_rfl) (by kernel_rfl) (by kernel_rfl) (fun _ _ _ h => h) (Or.inl ⟨by rfl, ?_⟩) (by assumption) ?_
  rotate_left
  (focus (intro w0 hSw; (try dsimp only at hSw); go_simp <;> with_reducible rfl))
  simp only [List.getElem_toArray, List.getElem_cons_succ, List.getElem_cons_zero, Act.put, List.setIfInBounds_toArray, List.set_cons_zero, List.set_cons_succ]
  refine wpAnyH_take (i := 13) (v := ?_) rfl (by kernel_rfl) (by kernel_rfl) (by kernel_rfl) (fun _ _ _ h => h) (Or.inl ⟨by rfl, ?_⟩) (by assumption) ?_
  rotate_left
  (focus (intro w0 hSw; (try dsimp only at hSw); go_simp <;> with_reducible rfl))
  simp only [List.getElem_toArray, List.getElem_cons_succ, List.getElem_cons_zero, Act.put, List.setIfInBounds_toArray, List.set_cons_zero, List.set_cons_succ]
  refine wpAnyH_take (i := 14) (v := ?_) rfl (by kernel_rfl) (by kernel_rfl) (by kernel_rfl) (fun _ _ _ h => h) (Or.inl ⟨by rfl, ?_⟩) (by assumption) ?_
  rotate_left
  (focus (intro w0 hSw; (try dsimp only at hSw); go_simp <;> with_reducible rfl))
  simp only [List.getElem_toArray, List.getElem_cons_succ, List.getElem_cons_zero, Act.put, List.setIfInBounds_toArray, List.set_cons_zero, List.set_cons_succ]
  refine wpAnyH_take (i := 15) (v := ?_) rfl (by kernel_rfl) (by kernel_rfl) (by kernel_rfl) (fun _ _ _ h => h) (Or.inl ⟨by rfl, ?_⟩) (by assumption) ?_
  rotate_left
  (focus (intro w0 hSw; (try dsimp only at hSw); go_simp <;> with_reducible rfl))
  simp only [List.getElem_toArray, List.getElem_cons_succ, List.getElem_cons_zero, Act.put, List.setIfInBounds_toArray, List.set_cons_zero, List.set_cons_succ]
  refine wpAnyH_take (i := 17) (v := ?_) rfl (by kernel_rfl) (by kernel_rfl) (by kernel_rfl) (fun _ _ _ h => h) (Or.inl ⟨by rfl, ?_⟩) (by assumption) ?_
  rotate_left
  (focus (intro w0 hSw; (try dsimp only at hSw); go_simp <;> with_reducible rfl))
  simp only [List.getElem_toArray, List.getElem_cons_succ, List.getElem_cons_zero, Act.put, List.setIfInBounds_toArray, List.set_cons_zero, List.set_cons_succ]
  refine wpAnyH_take (i := 18) (v := ?_) rfl (by kernel_rfl) (by kernel_rfl) (by kernel_rfl) (fun _ _ _ h => h) (Or.inl ⟨by rfl, ?_⟩) (by assumption) ?_
  rotate_left
  (focus (intro w0 hSw; (try dsimp only at hSw); go_simp <;> with_reducible rfl))
  simp only [List.getElem_toArray, List.getElem_cons_succ, List.getElem_cons_zero, Act.put, List.setIfInBounds_toArray, List.set_cons_zero, List.set_cons_succ]
  refine wpAnyH_take (i := 19) (v := ?_) rfl (by kernel_rfl) (by kernel_rfl) (by kernel_rfl) (fun _ _ _ h => h) (Or.inl ⟨by rfl, ?_⟩) (by assumption) ?_
  rotate_left
  (focus (intro w0 hSw; (try dsimp only at hSw); go_simp <;> with_reducible rfl))
  simp only [List.getElem_toArray, List.getElem_cons_succ, List.getElem_cons_zero, Act.put, List.setIfInBounds_toArray, List.set_cons_zero, List.set_cons_succ]
  refine wpAnyH_take (i := 20) (v := ?_) rfl (by kernel_rfl) (by kernel_rfl) (by kernel_rfl) (fun _ _ _ h => h) (Or.inl ⟨by rfl, ?_⟩) (by assumption) ?_
  rotate_left
  (focus (intro w0 hSw; (try dsimp only at hSw); go_simp <;> with_reducible rfl))
  simp only [List.getElem_toArray, List.getElem_cons_succ, List.getElem_cons_zero, Act.put, List.setIfInBounds_toArray, List.set_cons_zero, List.set_cons_succ]
  refine wpAnyH_take (i := 21) (v := ?_) rfl (by kernel_rfl) (by kernel_rfl) (by kernel_rfl) (fun _ _ _ h => h) (Or.inl ⟨by rfl, ?_⟩) (by assumption) ?_
  rotate_left
  (focus (intro w0 hSw; (try dsimp only at hSw); go_simp <;> with_reducible rfl))
  simp only [List.getElem_toArray, List.getElem_cons_succ, List.getElem_cons_zero, Act.put, List.setIfInBounds_toArray, List.set_cons_zero, List.set_cons_succ]
  refine wpAnyH_take (i := 22) (v := ?_) rfl (by kernel_rfl) (by kernel_rfl) (by kernel_rfl) (fun _ _ _ h => h) (Or.inl ⟨by rfl, ?_⟩) (by assumption) ?_
  rotate_left
  (focus (intro w0 hSw; (try dsimp only at hSw); go_simp <;> with_reducible rfl))
  simp only [List.getElem_toArray, List.getElem_cons_succ, List.getElem_cons_zero, Act.put, List.setIfInBounds_toArray, List.set_cons_zero, List.set_cons_succ]
  refine wpAnyH_ready (rs := [16, 23]) (by kernel_rfl) (by simp) ?_
  refine AllReadyH.cons (o := _) rfl (fun K hK => ?_) ?_
  · go_simp
    refine hK.out _ _ ?_ (fun hH1 => ?_)
    · ((try dsimp only); repeat (with_reducible first | assumption | refine kCd ?_ | refine kCs1 (by assumption) ?_))
    clear hK K
    try simp only [Act.put, List.setIfInBounds_toArray, List.set_cons_zero, List.set_cons_succ]
    refine wpAnyH_ready (rs := [23]) (by kernel_rfl) (by simp) ?_
    refine AllReadyH.cons (o := _) rfl (fun K hK => ?_) ?_
    rotate_left
    exact AllReadyH.nil
    go_simp
    refine hK.out _ _ ?_ (fun hH2 => ?_)
    · ((try dsimp only); repeat (with_reducible first | assumption | refine kCd ?_ | refine kCs1 (by assumption) ?_))
    clear hK K
    try simp only [Act.put, List.setIfInBounds_toArray, List.set_cons_zero, List.set_cons_succ]
    refine wpAnyH_take (i := 24) (v := ?_) rfl (by kernel_rfl) (by kernel_rfl) (by kernel_rfl) (fun _ _ _ h => h) (Or.inl ⟨by rfl, ?_⟩) (by assumption) ?_
    rotate_left
    (focus (intro w0 hSw; (try dsimp only at hSw); go_simp <;> with_reducible rfl))
    simp only [List.getElem_toArray, List.getElem_cons_succ, List.getElem_cons_zero, Act.put, List.setIfInBounds_toArray, List.set_cons_zero, List.set_cons_succ]
    refine wpAnyH_ready (rs := [25]) (by kernel_rfl) (by simp) ?_
    refine AllReadyH.cons (o := _) rfl (fun K hK => ?_) ?_
    rotate_left
    exact AllReadyH.nil
    go_simp
    refine hK.out _ _ ?_ (fun hH3 => ?_)
    · ((try dsimp only); repeat (with_reducible first | assumption | refine kCd ?_ | refine kCs1 (by assumption) ?_))
    clear hK K
    try simp only [Act.put, List.setIfInBounds_toArray, List.set_cons_zero, List.set_cons_succ]
    generalize hw1 : (w0.setCell ⟨g, i * 2, none⟩ (.int .i64 y0)).setCell ⟨g, i * 2 + 1, none⟩ (.int .i64 y1) = w1 at *
    refine wpAnyH_take (i := 26) (v := ?_) rfl (by kernel_rfl) (by kernel_rfl) (by kernel_rfl) (fun _ _ _ h => h) (Or.inl ⟨by rfl, ?_⟩) (by assumption) ?_
    rotate_left
    (focus (intro w0 hSw; (try dsimp only at hSw); go_simp <;> with_reducible rfl))
    simp only [List.getElem_toArray, List.getElem_cons_succ, List.getElem_cons_zero, Act.put, List.setIfInBounds_toArray, List.set_cons_zero, List.set_cons_succ]
    refine wpAnyH_ready (rs := [27]) (by kernel_rfl) (by simp) ?_
    refine AllReadyH.cons (o := _) rfl (fun K hK => ?_) ?_
    rotate_left
    exact AllReadyH.nil
    go_simp
    refine hK.out _ _ ?_ (fun hH4 => ?_)
    · ((try dsimp only); repeat (with_reducible first | assumption | refine kCd ?_ | refine kCs1 (by assumption) ?_))
    clear hK K
    try simp only [Act.put, List.setIfInBounds_toArray, List.set_cons_zero, List.set_cons_succ]
    refine wpAnyH_done (by kernel_rfl) ?_ _
    clear hw1 hH1 hH2 hH3 hH4 hHeld a0 a1 b0 b1 z0 z1 z2 z3 p0 p1 f0
    generalize (w1.setCell ⟨g, j * 2, none⟩ (.int .i64 x0)).setCell ⟨g, j * 2 + 1, none⟩ (.int .i64 x1) = w2 at *
    have R2o := R2.out
    have O2o := O2.out
    have hh := HQ.out
    have f0 : w2.drew.cell? ⟨q, 0, none⟩ = some (.slice (some ⟨g, 0, none⟩) n cap) := (World.cell?_of_block (a := ⟨q, 0, none⟩) (O2o.block q hgq.symm)).trans hh.f0
    have f1 : w2.drew.cell? ⟨q, 1, none⟩ = some (.map (some m)) := (World.cell?_of_block (a := ⟨q, 1, none⟩) (O2o.block q hgq.symm)).trans hh.f1
    have hqm : q ≠ m := hh.qm
    have hgm : g ≠ m := hh.gm
    have k1 : w2.drew.cell? ⟨g, i * 2, none⟩ = some (.int .i64 y0) := by have := R2o.c0 i hi; rw [swf_l, ej] at this; exact this
    have k2 : w2.drew.cell? ⟨g, j * 2, none⟩ = some (.int .i64 x0) := by have := R2o.c0 j hj; rw [swf_r, ei] at this; exact this
    have M2 : Mp w2.drew m (plR n d) := hh.mp.of (O2o.block m hgm.symm)
    obtain ⟨s1, e1, t1⟩ := M2.entry (P := Try.prog) (t := 46) Try.underlying46 Try.underlying3 (k := y0) (v := j) ⟨j, hj, by rw [ej], rfl⟩
    obtain ⟨w3, e2, M3, O3, t3⟩ := M2.store (P := Try.prog) (t := 46) t1 i
    obtain ⟨v3, hv3⟩ := putR_has (d := d) (n := n) (i := i) (y := y0) (x := x0) ⟨i, hi, by rw [ei], rfl⟩
    obtain ⟨s2, e3, t2⟩ := M3.entry (P := Try.prog) (t := 46) Try.underlying46 Try.underlying3 (k := x0) (v := v3) hv3
    obtain ⟨w4, e4, M4, O4, _⟩ := M3.store (P := Try.prog) (t := 46) t2 j
    have HR2 := hid R2o; have HO2 := hid O2o; have HM4 := hid M4; have HO3 := hid O3; have HO4 := hid O4; have Hh := hid hh
    clear R2o O2o hh M2 M3 M4 t1 t2 t3 hv3 O2 R2 HQ 
    go_wp2_with fail
    refine wp_region_held_drew (S := (fun w' => w'.cell? ⟨q, 0, none⟩ = some (.slice (some ⟨g, 0, none⟩) n cap) ∧ w'.cell? ⟨q, 1, none⟩ = some (.map (some m)) ∧ w'.cell? ⟨g, i * 2, none⟩ = some (.int .i64 y0) ∧ w'.cell? ⟨g, j * 2, none⟩ = some (.int .i64 x0))) (by kernel_rfl) ?_ (fun hHeld => ?_)
    · (refine ⟨?_, ?_, ?_, ?_⟩ <;> repeat (with_reducible first | assumption | refine kCd ?_))
    generalize hwd : w2.drew = w0 at *
    refine wpAnyH_take (i := 0) (v := ?_) rfl (by kernel_rfl) (by kernel_rfl) (by kernel_rfl) (fun _ _ _ h => h) (Or.inl ⟨by rfl, ?_⟩) (by assumption) ?_
    rotate_left
    (focus (intro w0 hSw; (try dsimp only at hSw); go_simp <;> with_reducible rfl))
    simp only [List.getElem_toArray, List.getElem_cons_zero, Act.put, List.setIfInBounds_toArray, List.set_cons_zero, List.set_cons_succ]
    refine wpAnyH_take (i := 1) (v := ?_) rfl (by kernel_rfl) (by kernel_rfl) (by kernel_rfl) (fun _ _ _ h => h) (Or.inl ⟨by rfl, ?_⟩) (by assumption) ?_
    rotate_left
    (focus (intro w0 hSw; (try dsimp only at hSw); go_simp <;> with_reducible rfl))
    simp only [List.getElem_toArray, List.getElem_cons_succ, List.getElem_cons_zero, Act.put, List.setIfInBounds_toArray, List.set_cons_zero, List.set_cons_succ]
    refine wpAnyH_take (i := 2) (v := ?_) rfl (by kernel_rfl) (by kernel_rfl) (by kernel_rfl) (fun _ _ _ h => h) (Or.inl ⟨by rfl, ?_⟩) (by assumption) ?_
    rotate_left
    (focus (intro w0 hSw; (try dsimp only at hSw); go_simp <;> with_reducible rfl))
    simp only [List.getElem_toArray, List.getElem_cons_succ, List.getElem_cons_zero, Act.put, List.setIfInBounds_toArray, List.set_cons_zero, List.set_cons_succ]
    refine wpAnyH_take (i := 3) (v := ?_) rfl (by kernel_rfl) (by kernel_rfl) (by kernel_rfl) (fun _ _ _ h => h) (Or.inl ⟨by rfl, ?_⟩) (by assumption) ?_
    rotate_left
    (focus (intro w0 hSw; (try dsimp only at hSw); go_simp <;> with_reducible rfl))
    simp only [List.getElem_toArray, List.getElem_cons_succ, List.getElem_cons_zero, Act.put, List.setIfInBounds_toArray, List.set_cons_zero, List.set_cons_succ]
    refine wpAnyH_take (i := 4) (v := ?_) rfl (by kernel_rfl) (by kernel_rfl) (by kernel_rfl) (fun _ _ _ h => h) (Or.inl ⟨by rfl, ?_⟩) (by assumption) ?_
    rotate_left
    (focus (intro w0 hSw; (try dsimp only at hSw); go_simp <;> with_reducible rfl))
    simp only [List.getElem_toArray, List.getElem_cons_succ, List.getElem_cons_zero, Act.put, List.setIfInBounds_toArray, List.set_cons_zero, List.set_cons_succ]
    refine wpAnyH_take (i := 5) (v := ?_) rfl (by kernel_rfl) (by kernel_rfl) (by kernel_rfl) (fun _ _ _ h => h) (Or.inl ⟨by rfl, ?_⟩) (by assumption) ?_
    rotate_left
    (focus (intro w0 hSw; (try dsimp only at hSw); go_simp <;> with_reducible rfl))
    simp only [List.getElem_toArray, List.getElem_cons_succ, List.getElem_cons_zero, Act.put, List.setIfInBounds_toArray, List.set_cons_zero, List.set_cons_succ]
    refine wpAnyH_take (i := 6) (v := ?_) rfl (by kernel_rfl) (by kernel_rfl) (by kernel_rfl) (fun _ _ _ h => h) (Or.inl ⟨by rfl, ?_⟩) (by assumption) ?_
    rotate_left
    (focus (intro w0 hSw; (try dsimp only at hSw); go_simp <;> with_reducible rfl))
    simp only [List.getElem_toArray, List.getElem_cons_succ, List.getElem_cons_zero, Act.put, List.setIfInBounds_toArray, List.set_cons_zero, List.set_cons_succ]
    refine wpAnyH_take (i := 7) (v := ?_) rfl (by kernel_rfl) (by kernel_rfl) (by kernel_rfl) (fun _ _ _ h => h) (Or.inl ⟨by rfl, ?_⟩) (by assumption) ?_
    rotate_left
    (focus (intro w0 hSw; (try dsimp only at hSw); go_simp <;> with_reducible rfl))
    simp only [List.getElem_toArray, List.getElem_cons_succ, List.getElem_cons_zero, Act.put, List.setIfInBounds_toArray, List.set_cons_zero, List.set_cons_succ]
    refine wpAnyH_take (i := 8) (v := ?_) rfl (by kernel_rfl) (by kernel_rfl) (by kernel_rfl) (fun _ _ _ h => h) (Or.inl ⟨by rfl, ?_⟩) (by assumption) ?_
    rotate_left
    (focus (intro w0 hSw; (try dsimp only at hSw); go_simp <;> with_reducible rfl))
    simp only [List.getElem_toArray, List.getElem_cons_succ, List.getElem_cons_zero, Act.put, List.setIfInBounds_toArray, List.set_cons_zero, List.set_cons_succ]
    refine wpAnyH_take (i := 9) (v := ?_) rfl (by kernel_rfl) (by kernel_rfl) (by kernel_rfl) (fun _ _ _ h => h) (Or.inl ⟨by rfl, ?_⟩) (by assumption) ?_
    rotate_left
    (focus (intro w0 hSw; (try dsimp only at hSw); go_simp <;> with_reducible rfl))
    simp only [List.getElem_toArray, List.getElem_cons_succ, List.getElem_cons_zero, Act.put, List.setIfInBounds_toArray, List.set_cons_zero, List.set_cons_succ]
    refine wpAnyH_take (i := 10) (v := ?_) rfl (by kernel_rfl) (by kernel_rfl) (by kernel_rfl) (fun _ _ _ h => h) (Or.inl ⟨by rfl, ?_⟩) (by assumption) ?_
    rotate_left
    (focus (intro w0 hSw; (try dsimp only at hSw); go_simp <;> with_reducible rfl))
    simp only [List.getElem_toArray, List.getElem_cons_succ, List.getElem_cons_zero, Act.put, List.setIfInBounds_toArray, List.set_cons_zero, List.set_cons_succ]
    refine wpAnyH_take (i := 11) (v := ?_) rfl (by kernel_rfl) (by kernel_rfl) (by kernel_rfl) (fun _ _ _ h => h) (Or.inl ⟨by rfl, ?_⟩) (by assumption) ?_
    rotate_left
    (focus (intro w0 hSw; (try dsimp only at hSw); go_simp <;> with_reducible rfl))
    simp only [List.getElem_toArray, List.getElem_cons_succ, List.getElem_cons_zero, Act.put, List.setIfInBounds_toArray, List.set_cons_zero, List.set_cons_succ]
    refine wpAnyH_take (i := 12) (v := ?_) rfl (by kernel_rfl) (by kernel_rfl) (by kernel_rfl) (fun _ _ _ h => h) (Or.inl ⟨by rfl, ?_⟩) (by assumption) ?_
    rotate_left
    (focus (intro w0 hSw; (try dsimp only at hSw); go_simp <;> with_reducible rfl))
    simp only [List.getElem_toArray, List.getElem_cons_succ, List.getElem_cons_zero, Act.put, List.setIfInBounds_toArray, List.set_cons_zero, List.set_cons_succ]
    refine wpAnyH_take (i := 13) (v := ?_) rfl (by kernel_rfl) (by kernel_rfl) (by kernel_rfl) (fun _ _ _ h => h) (Or.inl ⟨by rfl, ?_⟩) (by assumption) ?_
    rotate_left
    (focus (intro w0 hSw; (try dsimp only at hSw); go_simp <;> with_reducible rfl))
    simp only [List.getElem_toArray, List.getElem_cons_succ, List.getElem_cons_zero, Act.put, List.setIfInBounds_toArray, List.set_cons_zero, List.set_cons_succ]
    refine wpAnyH_take (i := 14) (v := ?_) rfl (by kernel_rfl) (by kernel_rfl) (by kernel_rfl) (fun _ _ _ h => h) (Or.inl ⟨by rfl, ?_⟩) (by assumption) ?_
    rotate_left
    (focus (intro w0 hSw; (try dsimp only at hSw); go_simp <;> with_reducible rfl))
    simp only [List.getElem_toArray, List.getElem_cons_succ, List.getElem_cons_zero, Act.put, List.setIfInBounds_toArray, List.set_cons_zero, List.set_cons_succ]
    refine wpAnyH_take (i := 15) (v := ?_) rfl (by kernel_rfl) (by kernel_rfl) (by kernel_rfl) (fun _ _ _ h => h) (Or.inl ⟨by rfl, ?_⟩) (by assumption) ?_
    rotate_left
    (focus (intro w0 hSw; (try dsimp only at hSw); go_simp <;> with_reducible rfl))
    simp only [List.getElem_toArray, List.getElem_cons_succ, List.getElem_cons_zero, Act.put, List.setIfInBounds_toArray, List.set_cons_zero, List.set_cons_succ]
    refine wpAnyH_take (i := 16) (v := ?_) rfl (by kernel_rfl) (by kernel_rfl) (by kernel_rfl) (fun _ _ _ h => h) (Or.inl ⟨by rfl, ?_⟩) (by assumption) ?_
    rotate_left
    (focus (intro w0 hSw; (try dsimp only at hSw); go_simp <;> with_reducible rfl))
    simp only [List.getElem_toArray, List.getElem_cons_succ, List.getElem_cons_zero, Act.put, List.setIfInBounds_toArray, List.set_cons_zero, List.set_cons_succ]
    refine wpAnyH_take (i := 17) (v := ?_) rfl (by kernel_rfl) (by kernel_rfl) (by kernel_rfl) (fun _ _ _ h => h) (Or.inl ⟨by rfl, ?_⟩) (by assumption) ?_
    rotate_left
    (focus (intro w0 hSw; (try dsimp only at hSw); go_simp <;> with_reducible rfl))
    simp only [List.getElem_toArray, List.getElem_cons_succ, List.getElem_cons_zero, Act.put, List.setIfInBounds_toArray, List.set_cons_zero, List.set_cons_succ]
    refine wpAnyH_take (i := 18) (v := ?_) rfl (by kernel_rfl) (by kernel_rfl) (by kernel_rfl) (fun _ _ _ h => h) (Or.inl ⟨by rfl, ?_⟩) (by assumption) ?_
    rotate_left
    (focus (intro w0 hSw; (try dsimp only at hSw); go_simp <;> with_reducible rfl))
    simp only [List.getElem_toArray, List.getElem_cons_succ, List.getElem_cons_zero, Act.put, List.setIfInBounds_toArray, List.set_cons_zero, List.set_cons_succ]
    refine wpAnyH_take (i := 19) (v := ?_) rfl (by kernel_rfl) (by kernel_rfl) (by kernel_rfl) (fun _ _ _ h => h) (Or.inl ⟨by rfl, ?_⟩) (by assumption) ?_
    rotate_left
    (focus (intro w0 hSw; (try dsimp only at hSw); go_simp <;> with_reducible rfl))
    simp only [List.getElem_toArray, List.getElem_cons_succ, List.getElem_cons_zero, Act.put, List.setIfInBounds_toArray, List.set_cons_zero, List.set_cons_succ]
    refine wpAnyH_take (i := 20) (v := ?_) rfl (by kernel_rfl) (by kernel_rfl) (by kernel_rfl) (fun _ _ _ h => h) (Or.inl ⟨by rfl, ?_⟩) (by assumption) ?_
    rotate_left
    (focus (intro w0 hSw; (try dsimp only at hSw); go_simp <;> with_reducible rfl))
    simp only [List.getElem_toArray, List.getElem_cons_succ, List.getElem_cons_zero, Act.put, List.setIfInBounds_toArray, List.set_cons_zero, List.set_cons_succ]
    refine wpAnyH_take (i := 21) (v := ?_) rfl (by kernel_rfl) (by kernel_rfl) (by kernel_rfl) (fun _ _ _ h => h) (Or.inl ⟨by rfl, ?_⟩) (by assumption) ?_
    rotate_left
    (focus (intro w0 hSw; (try dsimp only at hSw); go_simp <;> with_reducible rfl))
    simp only [List.getElem_toArray, List.getElem_cons_succ, List.getElem_cons_zero, Act.put, List.setIfInBounds_toArray, List.set_cons_zero, List.set_cons_succ]
    refine wpAnyH_take (i := 22) (v := ?_) rfl (by kernel_rfl) (by kernel_rfl) (by kernel_rfl) (fun _ _ _ h => h) (Or.inl ⟨by rfl, ?_⟩) (by assumption) ?_
    rotate_left
    (focus (intro w0 hSw; (try dsimp only at hSw); go_simp <;> with_reducible rfl))
    simp only [List.getElem_toArray, List.getElem_cons_succ, List.getElem_cons_zero, Act.put, List.setIfInBounds_toArray, List.set_cons_zero, List.set_cons_succ]
    refine wpAnyH_take (i := 23) (v := ?_) rfl (by kernel_rfl) (by kernel_rfl) (by kernel_rfl) (fun _ _ _ h => h) (Or.inl ⟨by rfl, ?_⟩) (by assumption) ?_
    rotate_left
    (focus (intro w0 hSw; (try dsimp only at hSw); go_simp <;> with_reducible rfl))
    simp only [List.getElem_toArray, List.getElem_cons_succ, List.getElem_cons_zero, Act.put, List.setIfInBounds_toArray, List.set_cons_zero, List.set_cons_succ]
    refine wpAnyH_take (i := 24) (v := ?_) rfl (by kernel_rfl) (by kernel_rfl) (by kernel_rfl) (fun _ _ _ h => h) (Or.inl ⟨by rfl, ?_⟩) (by assumption) ?_
    rotate_left
    (focus (intro w0 hSw; (try dsimp only at hSw); go_simp <;> with_reducible rfl))
    simp only [List.getElem_toArray, List.getElem_cons_succ, List.getElem_cons_zero, Act.put, List.setIfInBounds_toArray, List.set_cons_zero, List.set_cons_succ]
    refine wpAnyH_take (i := 25) (v := ?_) rfl (by kernel_rfl) (by kernel_rfl) (by kernel_rfl) (fun _ _ _ h => h) (Or.inl ⟨by rfl, ?_⟩) (by assumption) ?_
    rotate_left
    (focus (intro w0 hSw; (try dsimp only at hSw); go_simp <;> with_reducible rfl))
    simp only [List.getElem_toArray, List.getElem_cons_succ, List.getElem_cons_zero, Act.put, List.setIfInBounds_toArray, List.set_cons_zero, List.set_cons_succ]
    refine wpAnyH_ready (rs := [26]) (by kernel_rfl) (by simp) ?_
    refine AllReadyH.cons (o := _) rfl (fun K hK => ?_) ?_
    rotate_left
    exact AllReadyH.nil
    go_simp
    refine hK.out _ _ ?_ (fun hG1 => ?_)
    · ((try dsimp only); (refine ⟨?_, ?_, ?_, ?_⟩ <;> repeat (with_reducible first | assumption | refine kCd ?_ | refine kCo HO3.out (by assumption) ?_ | refine kCo HO4.out (by assumption) ?_)))
    clear hK K
    try simp only [Act.put, List.setIfInBounds_toArray, List.set_cons_zero, List.set_cons_succ]
    refine wpAnyH_take (i := 27) (v := ?_) rfl (by kernel_rfl) (by kernel_rfl) (by kernel_rfl) (fun _ _ _ h => h) (Or.inl ⟨by rfl, ?_⟩) (by assumption) ?_
    rotate_left
    (focus (intro w0 hSw; (try dsimp only at hSw); go_simp <;> with_reducible rfl))
    simp only [List.getElem_toArray, List.getElem_cons_succ, List.getElem_cons_zero, Act.put, List.setIfInBounds_toArray, List.set_cons_zero, List.set_cons_succ]
    refine wpAnyH_ready (rs := [28]) (by kernel_rfl) (by simp) ?_
    refine AllReadyH.cons (o := _) rfl (fun K hK => ?_) ?_
    rotate_left
    exact AllReadyH.nil
    go_simp
    refine hK.out _ _ ?_ (fun hG2 => ?_)
    · ((try dsimp only); (refine ⟨?_, ?_, ?_, ?_⟩ <;> repeat (with_reducible first | assumption | refine kCd ?_ | refine kCo HO3.out (by assumption) ?_ | refine kCo HO4.out (by assumption) ?_)))
    clear hK K
    try simp only [Act.put, List.setIfInBounds_toArray, List.set_cons_zero, List.set_cons_succ]
    refine wpAnyH_ready (rs := [29]) (by kernel_rfl) (by simp) ?_
    refine AllReadyH.cons (o := _) rfl (fun K hK => ?_) ?_
    rotate_left
    exact AllReadyH.nil
    go_simp
    refine hK.out _ _ ?_ (fun hG3 => ?_)
    · ((try dsimp only); (refine ⟨?_, ?_, ?_, ?_⟩ <;> repeat (with_reducible first | assumption | refine kCd ?_ | refine kCo HO3.out (by assumption) ?_ | refine kCo HO4.out (by assumption) ?_)))
    clear hK K
    try simp only [Act.put, List.setIfInBounds_toArray, List.set_cons_zero, List.set_cons_succ]
    refine wpAnyH_take (i := 30) (v := ?_) rfl (by kernel_rfl) (by kernel_rfl) (by kernel_rfl) (fun _ _ _ h => h) (Or.inl ⟨by rfl, ?_⟩) (by assumption) ?_
    rotate_left
    (focus (intro w0 hSw; (try dsimp only at hSw); go_simp <;> with_reducible rfl))
    simp only [List.getElem_toArray, List.getElem_cons_succ, List.getElem_cons_zero, Act.put, List.setIfInBounds_toArray, List.set_cons_zero, List.set_cons_succ]
    refine wpAnyH_ready (rs := [31]) (by kernel_rfl) (by simp) ?_
    refine AllReadyH.cons (o := _) rfl (fun K hK => ?_) ?_
    rotate_left
    exact AllReadyH.nil
    go_simp
    refine hK.out _ _ ?_ (fun hG4 => ?_)
    · ((try dsimp only); (refine ⟨?_, ?_, ?_, ?_⟩ <;> repeat (with_reducible first | assumption | refine kCd ?_ | refine kCo HO3.out (by assumption) ?_ | refine kCo HO4.out (by assumption) ?_)))
    clear hK K
    try simp only [Act.put, List.setIfInBounds_toArray, List.set_cons_zero, List.set_cons_succ]
    refine wpAnyH_done (by kernel_rfl) ?_ _
    go_wp2
    go_end0
    refine ⟨rfl, ?_⟩
    subst hwd
    exact swap_done Hh.out hi hj ei ej HR2.out HO2.out HM4.out HO3.out HO4.out
  refine AllReadyH.cons (o := _) rfl (fun K hK => ?_) ?_
  · go_simp
    refine hK.out _ _ ?_ (fun hH1 => ?_)
    · ((try dsimp only); repeat (with_reducible first | assumption | refine kCd ?_ | refine kCs1 (by assumption) ?_))
    clear hK K
    try simp only [Act.put, List.setIfInBounds_toArray, List.set_cons_zero, List.set_cons_succ]
    refine wpAnyH_ready (rs := [16]) (by kernel_rfl) (by simp) ?_
    refine AllReadyH.cons (o := _) rfl (fun K hK => ?_) ?_
    rotate_left
    exact AllReadyH.nil
    go_simp
    refine hK.out _ _ ?_ (fun hH2 => ?_)
    · ((try dsimp only); repeat (with_reducible first | assumption | refine kCd ?_ | refine kCs1 (by assumption) ?_))
    clear hK K
    try simp only [Act.put, List.setIfInBounds_toArray, List.set_cons_zero, List.set_cons_succ]
    refine wpAnyH_take (i := 24) (v := ?_) rfl (by kernel_rfl) (by kernel_rfl) (by kernel_rfl) (fun _ _ _ h => h) (Or.inl ⟨by rfl, ?_⟩) (by assumption) ?_
    rotate_left
    (focus (intro w0 hSw; (try dsimp only at hSw); go_simp <;> with_reducible rfl))
    simp only [List.getElem_toArray, List.getElem_cons_succ, List.getElem_cons_zero, Act.put, List.setIfInBounds_toArray, List.set_cons_zero, List.set_cons_succ]
    refine wpAnyH_ready (rs := [25]) (by kernel_rfl) (by simp) ?_
    refine AllReadyH.cons (o := _) rfl (fun K hK => ?_) ?_
    rotate_left
    exact AllReadyH.nil
    go_simp
    refine hK.out _ _ ?_ (fun hH3 => ?_)
    · ((try dsimp only); repeat (with_reducible first | assumption | refine kCd ?_ | refine kCs1 (by assumption) ?_))
    clear hK K
    try simp only [Act.put, List.setIfInBounds_toArray, List.set_cons_zero, List.set_cons_succ]
    generalize hw1 : (w0.setCell ⟨g, i * 2, none⟩ (.int .i64 y0)).setCell ⟨g, i * 2 + 1, none⟩ (.int .i64 y1) = w1 at *
    refine wpAnyH_take (i := 26) (v := ?_) rfl (by kernel_rfl) (by kernel_rfl) (by kernel_rfl) (fun _ _ _ h => h) (Or.inl ⟨by rfl, ?_⟩) (by assumption) ?_
    rotate_left
    (focus (intro w0 hSw; (try dsimp only at hSw); go_simp <;> with_reducible rfl))
    simp only [List.getElem_toArray, List.getElem_cons_succ, List.getElem_cons_zero, Act.put, List.setIfInBounds_toArray, List.set_cons_zero, List.set_cons_succ]
    refine wpAnyH_ready (rs := [27]) (by kernel_rfl) (by simp) ?_
    refine AllReadyH.cons (o := _) rfl (fun K hK => ?_) ?_
    rotate_left
    exact AllReadyH.nil
    go_simp
    refine hK.out _ _ ?_ (fun hH4 => ?_)
    · ((try dsimp only); repeat (with_reducible first | assumption | refine kCd ?_ | refine kCs1 (by assumption) ?_))
    clear hK K
    try simp only [Act.put, List.setIfInBounds_toArray, List.set_cons_zero, List.set_cons_succ]
    refine wpAnyH_done (by kernel_rfl) ?_ _
    clear hw1 hH1 hH2 hH3 hH4 hHeld a0 a1 b0 b1 z0 z1 z2 z3 p0 p1 f0
    generalize (w1.setCell ⟨g, j * 2, none⟩ (.int .i64 x0)).setCell ⟨g, j * 2 + 1, none⟩ (.int .i64 x1) = w2 at *
    have R2o := R2.out
    have O2o := O2.out
    have hh := HQ.out
    have f0 : w2.drew.cell? ⟨q, 0, none⟩ = some (.slice (some ⟨g, 0, none⟩) n cap) := (World.cell?_of_block (a := ⟨q, 0, none⟩) (O2o.block q hgq.symm)).trans hh.f0
    have f1 : w2.drew.cell? ⟨q, 1, none⟩ = some (.map (some m)) := (World.cell?_of_block (a := ⟨q, 1, none⟩) (O2o.block q hgq.symm)).trans hh.f1
    have hqm : q ≠ m := hh.qm
    have hgm : g ≠ m := hh.gm
    have k1 : w2.drew.cell? ⟨g, i * 2, none⟩ = some (.int .i64 y0) := by have := R2o.c0 i hi; rw [swf_l, ej] at this; exact this
    have k2 : w2.drew.cell? ⟨g, j * 2, none⟩ = some (.int .i64 x0) := by have := R2o.c0 j hj; rw [swf_r, ei] at this; exact this
    have M2 : Mp w2.drew m (plR n d) := hh.mp.of (O2o.block m hgm.symm)
    obtain ⟨s1, e1, t1⟩ := M2.entry (P := Try.prog) (t := 46) Try.underlying46 Try.underlying3 (k := y0) (v := j) ⟨j, hj, by rw [ej], rfl⟩
    obtain ⟨w3, e2, M3, O3, t3⟩ := M2.store (P := Try.prog) (t := 46) t1 i
    obtain ⟨v3, hv3⟩ := putR_has (d := d) (n := n) (i := i) (y := y0) (x := x0) ⟨i, hi, by rw [ei], rfl⟩
    obtain ⟨s2, e3, t2⟩ := M3.entry (P := Try.prog) (t := 46) Try.underlying46 Try.underlying3 (k := x0) (v := v3) hv3
    obtain ⟨w4, e4, M4, O4, _⟩ := M3.store (P := Try.prog) (t := 46) t2 j
    have HR2 := hid R2o; have HO2 := hid O2o; have HM4 := hid M4; have HO3 := hid O3; have HO4 := hid O4; have Hh := hid hh
    clear R2o O2o hh M2 M3 M4 t1 t2 t3 hv3 O2 R2 HQ 
    go_wp2_with fail
    refine wp_region_held_drew (S := (fun w' => w'.cell? ⟨q, 0, none⟩ = some (.slice (some ⟨g, 0, none⟩) n cap) ∧ w'.cell? ⟨q, 1, none⟩ = some (.map (some m)) ∧ w'.cell? ⟨g, i * 2, none⟩ = some (.int .i64 y0) ∧ w'.cell? ⟨g, j * 2, none⟩ = some (.int .i64 x0))) (by kernel_rfl) ?_ (fun hHeld => ?_)
    · (refine ⟨?_, ?_, ?_, ?_⟩ <;> repeat (with_reducible first | assumption | refine kCd ?_))
    generalize hwd : w2.drew = w0 at *
    refine wpAnyH_take (i := 0) (v := ?_) rfl (by kernel_rfl) (by kernel_rfl) (by kernel_rfl) (fun _ _ _ h => h) (Or.inl ⟨by rfl, ?_⟩) (by assumption) ?_
    rotate_left
    (focus (intro w0 hSw; (try dsimp only at hSw); go_simp <;> with_reducible rfl))
    simp only [List.getElem_toArray, List.getElem_cons_zero, Act.put, List.setIfInBounds_toArray, List.set_cons_zero, List.set_cons_succ]
    refine wpAnyH_take (i := 1) (v := ?_) rfl (by kernel_rfl) (by kernel_rfl) (by kernel_rfl) (fun _ _ _ h => h) (Or.inl ⟨by rfl, ?_⟩) (by assumption) ?_
    rotate_left
    (focus (intro w0 hSw; (try dsimp only at hSw); go_simp <;> with_reducible rfl))
    simp only [List.getElem_toArray, List.getElem_cons_succ, List.getElem_cons_zero, Act.put, List.setIfInBounds_toArray, List.set_cons_zero, List.set_cons_succ]
    refine wpAnyH_take (i := 2) (v := ?_) rfl (by kernel_rfl) (by kernel_rfl) (by kernel_rfl) (fun _ _ _ h => h) (Or.inl ⟨by rfl, ?_⟩) (by assumption) ?_
    rotate_left
    (focus (intro w0 hSw; (try dsimp only at hSw); go_simp <;> with_reducible rfl))
    simp only [List.getElem_toArray, List.getElem_cons_succ, List.getElem_cons_zero, Act.put, List.setIfInBounds_toArray, List.set_cons_zero, List.set_cons_succ]
    refine wpAnyH_take (i := 3) (v := ?_) rfl (by kernel_rfl) (by kernel_rfl) (by kernel_rfl) (fun _ _ _ h => h) (Or.inl ⟨by rfl, ?_⟩) (by assumption) ?_
    rotate_left
    (focus (intro w0 hSw; (try dsimp only at hSw); go_simp <;> with_reducible rfl))
    simp only [List.getElem_toArray, List.getElem_cons_succ, List.getElem_cons_zero, Act.put, List.setIfInBounds_toArray, List.set_cons_zero, List.set_cons_succ]
    refine wpAnyH_take (i := 4) (v := ?_) rfl (by kernel_rfl) (by kernel_rfl) (by kernel_rfl) (fun _ _ _ h => h) (Or.inl ⟨by rfl, ?_⟩) (by assumption) ?_
    rotate_left
    (focus (intro w0 hSw; (try dsimp only at hSw); go_simp <;> with_reducible rfl))
    simp only [List.getElem_toArray, List.getElem_cons_succ, List.getElem_cons_zero, Act.put, List.setIfInBounds_toArray, List.set_cons_zero, List.set_cons_succ]
    refine wpAnyH_take (i := 5) (v := ?_) rfl (by kernel_rfl) (by kernel_rfl) (by kernel_rfl) (fun _ _ _ h => h) (Or.inl ⟨by rfl, ?_⟩) (by assumption) ?_
    rotate_left
    (focus (intro w0 hSw; (try dsimp only at hSw); go_simp <;> with_reducible rfl))
    simp only [List.getElem_toArray, List.getElem_cons_succ, List.getElem_cons_zero, Act.put, List.setIfInBounds_toArray, List.set_cons_zero, List.set_cons_succ]
    refine wpAnyH_take (i := 6) (v := ?_) rfl (by kernel_rfl) (by kernel_rfl) (by kernel_rfl) (fun _ _ _ h => h) (Or.inl ⟨by rfl, ?_⟩) (by assumption) ?_
    rotate_left
    (focus (intro w0 hSw; (try dsimp only at hSw); go_simp <;> with_reducible rfl))
    simp only [List.getElem_toArray, List.getElem_cons_succ, List.getElem_cons_zero, Act.put, List.setIfInBounds_toArray, List.set_cons_zero, List.set_cons_succ]
    refine wpAnyH_take (i := 7) (v := ?_) rfl (by kernel_rfl) (by kernel_rfl) (by kernel_rfl) (fun _ _ _ h => h) (Or.inl ⟨by rfl, ?_⟩) (by assumption) ?_
    rotate_left
    (focus (intro w0 hSw; (try dsimp only at hSw); go_simp <;> with_reducible rfl))
    simp only [List.getElem_toArray, List.getElem_cons_succ, List.getElem_cons_zero, Act.put, List.setIfInBounds_toArray, List.set_cons_zero, List.set_cons_succ]
    refine wpAnyH_take (i := 8) (v := ?_) rfl (by kernel_rfl) (by kernel_rfl) (by kernel_rfl) (fun _ _ _ h => h) (Or.inl ⟨by rfl, ?_⟩) (by assumption) ?_
    rotate_left
    (focus (intro w0 hSw; (try dsimp only at hSw); go_simp <;> with_reducible rfl))
    simp only [List.getElem_toArray, List.getElem_cons_succ, List.getElem_cons_zero, Act.put, List.setIfInBounds_toArray, List.set_cons_zero, List.set_cons_succ]
    refine wpAnyH_take (i := 9) (v := ?_) rfl (by kernel_rfl) (by kernel_rfl) (by kernel_rfl) (fun _ _ _ h => h) (Or.inl ⟨by rfl, ?_⟩) (by assumption) ?_
    rotate_left
    (focus (intro w0 hSw; (try dsimp only at hSw); go_simp <;> with_reducible rfl))
    simp only [List.getElem_toArray, List.getElem_cons_succ, List.getElem_cons_zero, Act.put, List.setIfInBounds_toArray, List.set_cons_zero, List.set_cons_succ]
    refine wpAnyH_take (i := 10) (v := ?_) rfl (by kernel_rfl) (by kernel_rfl) (by kernel_rfl) (fun _ _ _ h => h) (Or.inl ⟨by rfl, ?_⟩) (by assumption) ?_
    rotate_left
    (focus (intro w0 hSw; (try dsimp only at hSw); go_simp <;> with_reducible rfl))
    simp only [List.getElem_toArray, List.getElem_cons_succ, List.getElem_cons_zero, Act.put, List.setIfInBounds_toArray, List.set_cons_zero, List.set_cons_succ]
    refine wpAnyH_take (i := 11) (v := ?_) rfl (by kernel_rfl) (by kernel_rfl) (by kernel_rfl) (fun _ _ _ h => h) (Or.inl ⟨by rfl, ?_⟩) (by assumption) ?_
    rotate_left
    (focus (intro w0 hSw; (try dsimp only at hSw); go_simp <;> with_reducible rfl))
    simp only [List.getElem_toArray, List.getElem_cons_succ, List.getElem_cons_zero, Act.put, List.setIfInBounds_toArray, List.set_cons_zero, List.set_cons_succ]
    refine wpAnyH_take (i := 12) (v := ?_) rfl (by kernel_rfl) (by kernel_rfl) (by kernel_rfl) (fun _ _ _ h => h) (Or.inl ⟨by rfl, ?_⟩) (by assumption) ?_
    rotate_left
    (focus (intro w0 hSw; (try dsimp only at hSw); go_simp <;> with_reducible rfl))
    simp only [List.getElem_toArray, List.getElem_cons_succ, List.getElem_cons_zero, Act.put, List.setIfInBounds_toArray, List.set_cons_zero, List.set_cons_succ]
    refine wpAnyH_take (i := 13) (v := ?_) rfl (by kernel_rfl) (by kernel_rfl) (by kernel_rfl) (fun _ _ _ h => h) (Or.inl ⟨by rfl, ?_⟩) (by assumption) ?_
    rotate_left
    (focus (intro w0 hSw; (try dsimp only at hSw); go_simp <;> with_reducible rfl))
    simp only [List.getElem_toArray, List.getElem_cons_succ, List.getElem_cons_zero, Act.put, List.setIfInBounds_toArray, List.set_cons_zero, List.set_cons_succ]
    refine wpAnyH_take (i := 14) (v := ?_) rfl (by kernel_rfl) (by kernel_rfl) (by kernel_rfl) (fun _ _ _ h => h) (Or.inl ⟨by rfl, ?_⟩) (by assumption) ?_
    rotate_left
    (focus (intro w0 hSw; (try dsimp only at hSw); go_simp <;> with_reducible rfl))
    simp only [List.getElem_toArray, List.getElem_cons_succ, List.getElem_cons_zero, Act.put, List.setIfInBounds_toArray, List.set_cons_zero, List.set_cons_succ]
    refine wpAnyH_take (i := 15) (v := ?_) rfl (by kernel_rfl) (by kernel_rfl) (by kernel_rfl) (fun _ _ _ h => h) (Or.inl ⟨by rfl, ?_⟩) (by assumption) ?_
    rotate_left
    (focus (intro w0 hSw; (try dsimp only at hSw); go_simp <;> with_reducible rfl))
    simp only [List.getElem_toArray, List.getElem_cons_succ, List.getElem_cons_zero, Act.put, List.setIfInBounds_toArray, List.set_cons_zero, List.set_cons_succ]
    refine wpAnyH_take (i := 16) (v := ?_) rfl (by kernel_rfl) (by kernel_rfl) (by kernel_rfl) (fun _ _ _ h => h) (Or.inl ⟨by rfl, ?_⟩) (by assumption) ?_
    rotate_left
    (focus (intro w0 hSw; (try dsimp only at hSw); go_simp <;> with_reducible rfl))
    simp only [List.getElem_toArray, List.getElem_cons_succ, List.getElem_cons_zero, Act.put, List.setIfInBounds_toArray, List.set_cons_zero, List.set_cons_succ]
    refine wpAnyH_take (i := 17) (v := ?_) rfl (by kernel_rfl) (by kernel_rfl) (by kernel_rfl) (fun _ _ _ h => h) (Or.inl ⟨by rfl, ?_⟩) (by assumption) ?_
    rotate_left
    (focus (intro w0 hSw; (try dsimp only at hSw); go_simp <;> with_reducible rfl))
    simp only [List.getElem_toArray, List.getElem_cons_succ, List.getElem_cons_zero, Act.put, List.setIfInBounds_toArray, List.set_cons_zero, List.set_cons_succ]
    refine wpAnyH_take (i := 18) (v := ?_) rfl (by kernel_rfl) (by kernel_rfl) (by kernel_rfl) (fun _ _ _ h => h) (Or.inl ⟨by rfl, ?_⟩) (by assumption) ?_
    rotate_left
    (focus (intro w0 hSw; (try dsimp only at hSw); go_simp <;> with_reducible rfl))
    simp only [List.getElem_toArray, List.getElem_cons_succ, List.getElem_cons_zero, Act.put, List.setIfInBounds_toArray, List.set_cons_zero, List.set_cons_succ]
    refine wpAnyH_take (i := 19) (v := ?_) rfl (by kernel_rfl) (by kernel_rfl) (by kernel_rfl) (fun _ _ _ h => h) (Or.inl ⟨by rfl, ?_⟩) (by assumption) ?_
    rotate_left
    (focus (intro w0 hSw; (try dsimp only at hSw); go_simp <;> with_reducible rfl))
    simp only [List.getElem_toArray, List.getElem_cons_succ, List.getElem_cons_zero, Act.put, List.setIfInBounds_toArray, List.set_cons_zero, List.set_cons_succ]
    refine wpAnyH_take (i := 20) (v := ?_) rfl (by kernel_rfl) (by kernel_rfl) (by kernel_rfl) (fun _ _ _ h => h) (Or.inl ⟨by rfl, ?_⟩) (by assumption) ?_
    rotate_left
    (focus (intro w0 hSw; (try dsimp only at hSw); go_simp <;> with_reducible rfl))
    simp only [List.getElem_toArray, List.getElem_cons_succ, List.getElem_cons_zero, Act.put, List.setIfInBounds_toArray, List.set_cons_zero, List.set_cons_succ]
    refine wpAnyH_take (i := 21) (v := ?_) rfl (by kernel_rfl) (by kernel_rfl) (by kernel_rfl) (fun _ _ _ h => h) (Or.inl ⟨by rfl, ?_⟩) (by assumption) ?_
    rotate_left
    (focus (intro w0 hSw; (try dsimp only at hSw); go_simp <;> with_reducible rfl))
    simp only [List.getElem_toArray, List.getElem_cons_succ, List.getElem_cons_zero, Act.put, List.setIfInBounds_toArray, List.set_cons_zero, List.set_cons_succ]
    refine wpAnyH_take (i := 22) (v := ?_) rfl (by kernel_rfl) (by kernel_rfl) (by kernel_rfl) (fun _ _ _ h => h) (Or.inl ⟨by rfl, ?_⟩) (by assumption) ?_
    rotate_left
    (focus (intro w0 hSw; (try dsimp only at hSw); go_simp <;> with_reducible rfl))
    simp only [List.getElem_toArray, List.getElem_cons_succ, List.getElem_cons_zero, Act.put, List.setIfInBounds_toArray, List.set_cons_zero, List.set_cons_succ]
    refine wpAnyH_take (i := 23) (v := ?_) rfl (by kernel_rfl) (by kernel_rfl) (by kernel_rfl) (fun _ _ _ h => h) (Or.inl ⟨by rfl, ?_⟩) (by assumption) ?_
    rotate_left
    (focus (intro w0 hSw; (try dsimp only at hSw); go_simp <;> with_reducible rfl))
    simp only [List.getElem_toArray, List.getElem_cons_succ, List.getElem_cons_zero, Act.put, List.setIfInBounds_toArray, List.set_cons_zero, List.set_cons_succ]
    refine wpAnyH_take (i := 24) (v := ?_) rfl (by kernel_rfl) (by kernel_rfl) (by kernel_rfl) (fun _ _ _ h => h) (Or.inl ⟨by rfl, ?_⟩) (by assumption) ?_
    rotate_left
    (focus (intro w0 hSw; (try dsimp only at hSw); go_simp <;> with_reducible rfl))
    simp only [List.getElem_toArray, List.getElem_cons_succ, List.getElem_cons_zero, Act.put, List.setIfInBounds_toArray, List.set_cons_zero, List.set_cons_succ]
    refine wpAnyH_take (i := 25) (v := ?_) rfl (by kernel_rfl) (by kernel_rfl) (by kernel_rfl) (fun _ _ _ h => h) (Or.inl ⟨by rfl, ?_⟩) (by assumption) ?_
    rotate_left
    (focus (intro w0 hSw; (try dsimp only at hSw); go_simp <;> with_reducible rfl))
    simp only [List.getElem_toArray, List.getElem_cons_succ, List.getElem_cons_zero, Act.put, List.setIfInBounds_toArray, List.set_cons_zero, List.set_cons_succ]
    refine wpAnyH_ready (rs := [26]) (by kernel_rfl) (by simp) ?_
    refine AllReadyH.cons (o := _) rfl (fun K hK => ?_) ?_
    rotate_left
    exact AllReadyH.nil
    go_simp
    refine hK.out _ _ ?_ (fun hG1 => ?_)
    · ((try dsimp only); (refine ⟨?_, ?_, ?_, ?_⟩ <;> repeat (with_reducible first | assumption | refine kCd ?_ | refine kCo HO3.out (by assumption) ?_ | refine kCo HO4.out (by assumption) ?_)))
    clear hK K
    try simp only [Act.put, List.setIfInBounds_toArray, List.set_cons_zero, List.set_cons_succ]
    refine wpAnyH_take (i := 27) (v := ?_) rfl (by kernel_rfl) (by kernel_rfl) (by kernel_rfl) (fun _ _ _ h => h) (Or.inl ⟨by rfl, ?_⟩) (by assumption) ?_
    rotate_left
    (focus (intro w0 hSw; (try dsimp only at hSw); go_simp <;> with_reducible rfl))
    simp only [List.getElem_toArray, List.getElem_cons_succ, List.getElem_cons_zero, Act.put, List.setIfInBounds_toArray, List.set_cons_zero, List.set_cons_succ]
    refine wpAnyH_ready (rs := [28]) (by kernel_rfl) (by simp) ?_
    refine AllReadyH.cons (o := _) rfl (fun K hK => ?_) ?_
    rotate_left
    exact AllReadyH.nil
    go_simp
    refine hK.out _ _ ?_ (fun hG2 => ?_)
    · ((try dsimp only); (refine ⟨?_, ?_, ?_, ?_⟩ <;> repeat (with_reducible first | assumption | refine kCd ?_ | refine kCo HO3.out (by assumption) ?_ | refine kCo HO4.out (by assumption) ?_)))
    clear hK K
    try simp only [Act.put, List.setIfInBounds_toArray, List.set_cons_zero, List.set_cons_succ]
    refine wpAnyH_ready (rs := [29]) (by kernel_rfl) (by simp) ?_
    refine AllReadyH.cons (o := _) rfl (fun K hK => ?_) ?_
    rotate_left
    exact AllReadyH.nil
    go_simp
    refine hK.out _ _ ?_ (fun hG3 => ?_)
    · ((try dsimp only); (refine ⟨?_, ?_, ?_, ?_⟩ <;> repeat (with_reducible first | assumption | refine kCd ?_ | refine kCo HO3.out (by assumption) ?_ | refine kCo HO4.out (by assumption) ?_)))
    clear hK K
    try simp only [Act.put, List.setIfInBounds_toArray, List.set_cons_zero, List.set_cons_succ]
    refine wpAnyH_take (i := 30) (v := ?_) rfl (by kernel_rfl) (by kernel_rfl) (by kernel_rfl) (fun _ _ _ h => h) (Or.inl ⟨by rfl, ?_⟩) (by assumption) ?_
    rotate_left
    (focus (intro w0 hSw; (try dsimp only at hSw); go_simp <;> with_reducible rfl))
    simp only [List.getElem_toArray, List.getElem_cons_succ, List.getElem_cons_zero, Act.put, List.setIfInBounds_toArray, List.set_cons_zero, List.set_cons_succ]
    refine wpAnyH_ready (rs := [31]) (by kernel_rfl) (by simp) ?_
    refine AllReadyH.cons (o := _) rfl (fun K hK => ?_) ?_
    rotate_left
    exact AllReadyH.nil
    go_simp
    refine hK.out _ _ ?_ (fun hG4 => ?_)
    · ((try dsimp only); (refine ⟨?_, ?_, ?_, ?_⟩ <;> repeat (with_reducible first | assumption | refine kCd ?_ | refine kCo HO3.out (by assumption) ?_ | refine kCo HO4.out (by assumption) ?_)))
    clear hK K
    try simp only [Act.put, List.setIfInBounds_toArray, List.set_cons_zero, List.set_cons_succ]
    refine wpAnyH_done (by kernel_rfl) ?_ _
    go_wp2
    go_end0
    refine ⟨rfl, ?_⟩
    subst hwd
    exact swap_done Hh.out hi hj ei ej HR2.out HO2.out HM4.out HO3.out HO4.out
  exact AllReadyH.nil
end Go.Proofs.Ytacgkgbhleehjaa

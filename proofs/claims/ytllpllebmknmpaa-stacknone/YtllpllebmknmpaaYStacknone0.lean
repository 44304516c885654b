/-
  The walk of package whole's call Divide. Walks of the document's Same and Light of rational numbers, and of the statements' own light. The statements' looks at how long the numbers of lists are (light, Lights). What the rows of this seat share: how arguments that are rational numbers, lists of numbers and lists of terms are opened. The seat's rows list no tables. The walks of Least, of package model and of the reference. How arguments that are points, bases and certificates are opened. Rows of structs that a call makes by append, none of whose cells is a limb: what stays when they are written. No Go text is named here. Blocks that are told whole, and what is written into them. Lists of terms in form, as values; the walk of package vec's merge. The walks of package vec's calls Scale and Sparse, whatever they are handed. The walk of the document's reference for nat: bit, Bits, DivMod. Walks of the document's reference for whole: Divide. Package vec's calls on lists in form, by their values; lists that are put together by their terms. The reference's Same and Sames of lists with the same values. The walks of the reference's Same of points, of certificates and of bases that are alike; of the calls of a nil stack; of StackNone (written by makers/o6.py). The walk of StackNone (written by makers/o7.py).
-/
import Derived.Test.YtllpllebmknmpaaZ0
import Derived.Test.YtllpllebmknmpaaZ1
import Derived.Test.YtllpllebmknmpaaZ2
import Derived.Test.YtllpllebmknmpaaZ3
import Derived.Test.YtllpllebmknmpaaZ4
import Derived.Deep.RegionHeld3
import Derived.Test.YtllpllebmknmpaaRows
import Derived.Test.YtllpllebmknmpaaChecked
import Derived.ProofKit
import Derived.OpenShut
import Derived.ChangeSame
import Derived.Deep.Slices
import Derived.Deep.DeepHandedRow
import Derived.BigQuiet
namespace Go.Proofs.Ytllpllebmknmpaa
open Go.RowKit

/-- How four boxes read. -/
def B4 (w w1 : World) (a0 a1 b0 b1 c0 c1 d0 d1 : Value) : Prop := w.heap.size + 1 + 1 + 1 < w1.heap.size ∧ w1.cell? ⟨w.heap.size, 0, none⟩ = some a0 ∧ w1.cell? ⟨w.heap.size, 1, none⟩ = some a1 ∧ w1.cell? ⟨w.heap.size + 1, 0, none⟩ = some b0 ∧ w1.cell? ⟨w.heap.size + 1, 1, none⟩ = some b1 ∧ w1.cell? ⟨w.heap.size + 1 + 1, 0, none⟩ = some c0 ∧ w1.cell? ⟨w.heap.size + 1 + 1, 1, none⟩ = some c1 ∧ w1.cell? ⟨w.heap.size + 1 + 1 + 1, 0, none⟩ = some d0 ∧ w1.cell? ⟨w.heap.size + 1 + 1 + 1, 1, none⟩ = some d1 ∧ (∀ o, w1.frozen? ⟨w.heap.size + 1 + 1, o, none⟩ = false) ∧ (∀ o, w1.frozen? ⟨w.heap.size + 1 + 1 + 1, o, none⟩ = false)
end Go.Proofs.Ytllpllebmknmpaa
namespace Go.Proofs.Ytllpllebmknmpaa
open Go.RowKit

def lg (n m k : Nat) : Bool := decide (n ≤ k) && decide (m ≤ k)
end Go.Proofs.Ytllpllebmknmpaa
namespace Go.Proofs.Ytllpllebmknmpaa
open Go.RowKit

theorem rLightK_c (K : Nat) (s : Bool) (x y : Option Addr) (n c m d : Nat) (w : World) :
    Calls Try.prog 31 #[.agg #[.bool s, .slice x n c, .slice y m d], .int .i64 K] w fun e w' => e = .returned (.bool (lg n m K)) ∧ Below w.heap.size w w' := by
  by_cases h1 : n ≤ K
  · have d1 : decide ((n : Int) ≤ (K : Int)) = true := by simp; omega
    by_cases h2 : m ≤ K
    · have d2 : decide ((m : Int) ≤ (K : Int)) = true := by simp; omega
      rw [show lg n m K = true by simp [lg, h1, h2]]
      go_enter Try.func31, Try.ntmps31
      go_wp2
      go_ret
      exact ⟨rfl, below_alloc (Below.refl _ _) _⟩
    · have d2 : decide ((m : Int) ≤ (K : Int)) = false := by simp; omega
      rw [show lg n m K = false by simp [lg, h2]]
      go_enter Try.func31, Try.ntmps31
      go_wp2
      go_ret
      exact ⟨rfl, below_alloc (Below.refl _ _) _⟩
  · have d1 : decide ((n : Int) ≤ (K : Int)) = false := by simp; omega
    rw [show lg n m K = false by simp [lg, h1]]
    go_enter Try.func31, Try.ntmps31
    go_wp2
    go_ret
    exact ⟨rfl, below_alloc (Below.refl _ _) _⟩

def Rr (w : World) (ao : Option Addr) (k : Nat) (X : Nat → Nm) : Prop :=
  ∀ j, j < k → ∃ b o, ao = some ⟨b, o, none⟩ ∧ C3 w b (o + j * 3) (.bool (X j).s) (.slice (X j).x (X j).n (X j).c) (.slice (X j).y (X j).m (X j).d) ∧ Rw w (X j).x (X j).n (X j).c (X j).f (X j).y (X j).m (X j).d (X j).g
theorem Rr.below {w w' ao k X} (h : Rr w ao k X) (hb : Below w.heap.size w w') : Rr w' ao k X := fun j hj => by
  obtain ⟨b, o, e, h1, h2⟩ := h j hj
  exact ⟨b, o, e, h1.below hb, h2.below hb⟩
/-- All numbers from number i on have at most K limbs. -/
def nlg (K : Nat) (X : Nat → Nm) : Nat → Nat → Bool
  | 0, _ => true
  | r + 1, i => lg (X i).n (X i).m K && nlg K X r (i + 1)
set_option maxRecDepth 100000 in
set_option maxHeartbeats 4000000 in
theorem rLights_c {w : World} {ao : Option Addr} {k cap : Nat} {X : Nat → Nm} (K : Nat) (h : Rr w ao k X) (hk : k ≤ 9223372036854775807) :
    Calls Try.prog 12 #[.slice ao k cap, .int .i64 K] w fun e w' => e = .returned (.bool (decide (k ≤ 300) && nlg K X k 0)) ∧ Below w.heap.size w w' := by
  have H := hid h
  clear h
  by_cases h300 : k ≤ 300
  · have i0 : ¬ ((300 : Int) < ((k : Nat) : Int)) := by omega
    rw [show (decide (k ≤ 300) && nlg K X k 0) = nlg K X k 0 by simp [h300]]
    go_enter Try.func12, Try.ntmps12
    go_wp2_with fail
    go_loopw [12] (fun t wr => ∃ (i : Nat), i ≤ k ∧ t = .int .i64 i ∧ Hid (Below w.heap.size w wr) ∧ Hid (nlg K X k 0 = nlg K X (k - i) i)) (fun t _ => k - (intOf t).toNat)
    case atStart => exact ⟨0, by omega, rfl, Below.refl _ _, rfl⟩
    case round =>
      obtain ⟨i, hi, rfl, HB, HT⟩ := hrel
      by_cases hlt : i < k
      · obtain ⟨b, o, rfl, hc, hn⟩ := (H.out.below HB.out) i hlt
        obtain ⟨r, hr⟩ : ∃ r, k - i = r + 1 := ⟨k - i - 1, by omega⟩
        have hT : nlg K X k 0 = (lg (X i).n (X i).m K && nlg K X r (i + 1)) := by rw [HT.out, hr]; rfl
        have hr2 : k - (i + 1) = r := by omega
        obtain ⟨⟨s, x, n, c, f, y, m, d, g⟩, hTi⟩ : ∃ t, X i = t := ⟨_, rfl⟩
        rw [hTi] at hc hn hT
        obtain ⟨x0, x1, x2⟩ := hc
        replace x0 : wr.cell? ⟨b, o + i * 3, none⟩ = some (.bool s) := x0
        replace x1 : wr.cell? ⟨b, o + i * 3 + 1, none⟩ = some (.slice x n c) := x1
        replace x2 : wr.cell? ⟨b, o + i * 3 + 2, none⟩ = some (.slice y m d) := x2
        have HTi := hid hT; have HR2 := hid hr2
        have i1 : ((i : Nat) : Int) < ((k : Nat) : Int) := by omega
        clear hT hr2 hTi hr hn
        go_wp2_with fail
        refine (rLightK_c K s x y n c m d _).mono ?_
        rintro e w1 ⟨rfl, hb1⟩
        obtain ⟨_, _, _, _, hb2⟩ := box3 hb1
        have HB2 := hid (HB.out.trans (hb2.mono HB.out.size))
        clear hb1 hb2
        cases hf : lg n m K
        · have HF := hid hf
          clear hf
          go_wp2
          go_ret
          refine ⟨?_, HB2.out⟩
          rw [HTi.out]
          show _ = Ending.returned (.bool (lg n m K && _))
          rw [HF.out]; rfl
        · have HF := hid hf
          clear hf
          go_wp2
          go_roundw
          case rel =>
            refine ⟨i + 1, by omega, by go_num, HB2.out, ?_⟩
            show _ = _
            rw [HTi.out, HR2.out]
            show (lg n m K && _) = _
            rw [HF.out]; rfl
          case measure => simp [intOf]; omega
      · have e1 : i = k := by omega
        have HTe : Hid (nlg K X k 0 = true) := by
          show _ = _
          rw [HT.out, e1, Nat.sub_self]; rfl
        have i2 : ¬ (((i : Nat) : Int) < ((k : Nat) : Int)) := by omega
        clear e1 HT
        go_wp2
        go_ret
        refine ⟨?_, HB.out⟩
        rw [HTe.out]; rfl
  · have i0 : (300 : Int) < ((k : Nat) : Int) := by omega
    rw [show (decide (k ≤ 300) && nlg K X k 0) = false by simp [h300]]
    go_enter Try.func12, Try.ntmps12
    go_wp2
    go_ret
    exact ⟨rfl, Below.refl _ _⟩

end Go.Proofs.Ytllpllebmknmpaa
namespace Go.Proofs.Ytllpllebmknmpaa
open Go.ChangeShapes Go.WideShapes Go.ChangeAt Go.RowKit

theorem Try.laidOut : laidOutB Try.prog = true := by kernel_rfl
theorem Try.cellsU64 : Try.prog.cellsOf 63 = 1 := by kernel_rfl
theorem Try.cellsR : Try.prog.cellsOf 66 = 3 := by kernel_rfl
set_option maxRecDepth 100000 in
/-- A list of limbs inside an argument. -/
theorem viewL {H : Type} {enc : TypeId × Value → H} {W : World} {fuel : Nat} {v : Value} {x : DataW H × List MemPlace} (h : DataW.trod enc Try.prog W 0 (fun _ => true) true fuel 64 [v] = some x) :
    ∃ ao n cap f, v = .slice ao n cap ∧ Rd .u64 W ao n f ∧ Lm f n ∧ (ao = none → n = 0 ∧ cap = 0) ∧ n ≤ cap ∧ cap ≤ 9223372036854775807 := by
  rcases open_ints Try.underlying64 Try.underlying63 Try.cellsU64 h with ⟨hcs, hx⟩ | ⟨a, len', cap', zs, hcs, _, hl, hm, hz, hx, hcell, hwz⟩
  · simp at hcs
    subst hcs
    exact ⟨none, 0, 0, fun _ => 0, rfl, Rd.zero, fun j hj => by omega, fun _ => ⟨rfl, rfl⟩, by omega, by omega⟩
  · simp at hcs
    subst hcs
    simp only [if_true] at hz
    refine ⟨some a, len', cap', fun j => zs.getD j 0, rfl, fun j hj => ?_, fun j hj => ?_, (fun h => by cases h), hl, by unfold maxLen at hm; omega⟩
    · obtain ⟨b, off, spot⟩ := a
      have hspot : spot = none := by simpa [Addr.add] using World.cell?_spot (hcell 0 (by omega))
      subst hspot
      exact ⟨b, off, rfl, by have := hcell j (by omega); rwa [addr_add] at this⟩
    · have hmem : zs.getD j 0 ∈ zs := by
        rw [List.getD_eq_getElem?_getD, List.getElem?_eq_getElem (by omega)]
        exact List.getElem_mem _
      have := bounds_u64 (hwz _ hmem)
      show 0 ≤ zs.getD j 0 ∧ zs.getD j 0 < 18446744073709551616
      omega
/-- A struct of three fields, of two: each is read by itself. -/
theorem fields3 {H : Type} {enc : TypeId × Value → H} {P : Program} {w : World} {base : Nat} {spare : Nat → Bool} {held : Bool} {t : TypeId} {f0 f1 f2 : Field} {fuel : Nat} {cs : List Value} {x : DataW H × List MemPlace} (ht : P.underlying t = some (.struct #[f0, f1, f2])) (h : DataW.trod enc P w base spare held fuel t cs = some x) :
    ∃ y0 y1 y2 k, DataW.trod enc P w base spare held k f0.type ((cs.drop f0.offset).take (P.cellsOf f0.type)) = some y0 ∧ DataW.trod enc P w base spare held k f1.type ((cs.drop f1.offset).take (P.cellsOf f1.type)) = some y1 ∧ DataW.trod enc P w base spare held k f2.type ((cs.drop f2.offset).take (P.cellsOf f2.type)) = some y2 := by
  obtain ⟨ys, k, _, rfl, _, hlen, hf⟩ := DataW.trod_struct ht h
  match ys, hlen with
  | [y0, y1, y2], _ => exact ⟨y0, y1, y2, k, by simpa using hf 0 f0 rfl, by simpa using hf 1 f1 rfl, by simpa using hf 2 f2 rfl⟩
set_option maxRecDepth 100000 in
/-- Three cells that are a rational number. -/
theorem viewRc {H : Type} {enc : TypeId × Value → H} {W : World} {k : Nat} {c0 c1 c2 : Value} {z : DataW H × List MemPlace} (hf : DataW.trod enc Try.prog W 0 (fun _ => true) true k 66 [c0, c1, c2] = some z) :
    ∃ s x n c f y m b g, c0 = .bool s ∧ c1 = .slice x n c ∧ c2 = .slice y m b ∧ Rw W x n c f y m b g := by
  obtain ⟨y0, y1, y2, k, h0, h1, h2⟩ := fields3 Try.underlying66 hf
  have h0' : DataW.trod enc Try.prog W 0 (fun _ => true) true k 4 [c0] = some y0 := h0
  have h1' : DataW.trod enc Try.prog W 0 (fun _ => true) true k 64 [c1] = some y1 := h1
  have h2' : DataW.trod enc Try.prog W 0 (fun _ => true) true k 64 [c2] = some y2 := h2
  obtain ⟨s, hs, _⟩ := DataW.trod_bool Try.underlying4 h0'
  obtain ⟨ao, n, cap, f, rfl, hr, hlm, hnil, hc⟩ := viewL h1'
  obtain ⟨bo, m, cap', g, rfl, hr', hlm', hnil', hc'⟩ := viewL h2'
  simp at hs
  exact ⟨s, ao, n, cap, f, bo, m, cap', g, hs, rfl, rfl, hr, hlm, hc, hnil, hr', hlm', hc', hnil'⟩
/-- Cells in a row, each by itself. -/
theorem cells_at {w : World} {base n : Nat} {a : Addr} {cs : List Value} (h : w.cells? base a n = some cs) : cs.length = n ∧ ∀ i u, cs[i]? = some u → w.cell? (a.add i) = some u := by
  obtain ⟨_, h1, h2⟩ := World.cells?_some h
  refine ⟨h1, fun i u hi => ?_⟩
  have hlt : i < n := by rw [← h1]; exact (List.getElem?_eq_some_iff.1 hi).1
  rw [← hi]; exact h2 i hlt
theorem addr_add2 (a : Addr) (j i : Nat) : (a.add j).add i = a.add (j + i) := by
  obtain ⟨b, o, s⟩ := a
  by_cases hj : j = 0
  · subst hj; by_cases hi : i = 0
    · subst hi; simp [Addr.add]
    · simp [Addr.add, hi]
  · by_cases hi : i = 0
    · subst hi; simp [Addr.add, hj]
    · simp [Addr.add, hi, hj, Nat.add_assoc]
end Go.Proofs.Ytllpllebmknmpaa
namespace Go.Proofs.Ytllpllebmknmpaa
open Go.RowKit

def El (w : World) (ao : Option Addr) (k : Nat) (E : Nat → Int) : Prop := ∀ j, j < k → ∃ b o, ao = some ⟨b, o, none⟩ ∧ w.cell? ⟨b, o + j, none⟩ = some (.int .i64 (E j))
end Go.Proofs.Ytllpllebmknmpaa
namespace Go.Proofs.Ytllpllebmknmpaa
open Go.ChangeShapes Go.WideShapes Go.ChangeAt Go.RowKit

theorem Try.readPt : Try.prog.readableRec 32 = true := by kernel_rfl
theorem Try.sizePt : 32 < Try.prog.types.size := of_decide_eq_true (by kernel_rfl)
theorem Try.cellsPt : Try.prog.cellsOf 32 = 3 := by kernel_rfl
theorem Try.readBs : Try.prog.readableRec 35 = true := by kernel_rfl
theorem Try.sizeBs : 35 < Try.prog.types.size := of_decide_eq_true (by kernel_rfl)
theorem Try.cellsBs : Try.prog.cellsOf 35 = 2 := by kernel_rfl
theorem Try.readCt : Try.prog.readableRec 55 = true := by kernel_rfl
theorem Try.sizeCt : 55 < Try.prog.types.size := of_decide_eq_true (by kernel_rfl)
theorem Try.cellsCt : Try.prog.cellsOf 55 = 4 := by kernel_rfl
theorem Try.cellsSt : Try.prog.cellsOf 87 = 1 := by kernel_rfl
/-- A struct of n fields: each is read by itself. -/
theorem fieldsN {H : Type} {enc : TypeId × Value → H} {P : Program} {w : World} {t : TypeId} {fs : Array Field} {fuel : Nat} {cs : List Value} {x : DataW H × List MemPlace} (ht : P.underlying t = some (.struct fs)) (h : DataW.trod enc P w 0 (fun _ => true) true fuel t cs = some x) :
    ∃ k, ∀ (i : Nat) (f : Field), fs[i]? = some f → ∃ y, DataW.trod enc P w 0 (fun _ => true) true k f.type ((cs.drop f.offset).take (P.cellsOf f.type)) = some y := by
  obtain ⟨xs, k, _, rfl, _, hlen, hf⟩ := DataW.trod_struct ht h
  refine ⟨k, fun i f hi => ?_⟩
  have hlt : i < xs.length := by rw [hlen]; exact (Array.getElem?_eq_some_iff.1 hi).1
  exact ⟨xs[i], by rw [hf i f hi, List.getElem?_eq_getElem hlt]⟩
set_option maxRecDepth 100000 in
/-- A list of numbers inside an argument. -/
theorem viewRsF {H : Type} {enc : TypeId × Value → H} {W : World} {fuel : Nat} {v : Value} {x : DataW H × List MemPlace} (hf : DataW.trod enc Try.prog W 0 (fun _ => true) true fuel 30 [v] = some x) :
    ∃ ao k c X, v = .slice ao k c ∧ Rr W ao k X ∧ (k ≤ c ∧ c ≤ 9223372036854775807) := by
  rcases Go.Deep.open_slice Try.underlying30 hf with ⟨hcs, _⟩ | ⟨a, len, cap, m, n, D, Pl, hcs, _, hl, hm, hmm, _, hel⟩
  · simp at hcs
    exact ⟨none, 0, 0, fun _ => ⟨false, none, 0, 0, fun _ => 0, none, 0, 0, fun _ => 0⟩, hcs, fun j hj => by omega, by omega, by omega⟩
  · simp at hcs
    subst hcs
    have hX : ∀ j, ∃ t : Nm, j < len → W.cell? (a.add (j * 3)) = some (.bool t.s) ∧ W.cell? (a.add (j * 3 + 1)) = some (.slice t.x t.n t.c) ∧ W.cell? (a.add (j * 3 + 2)) = some (.slice t.y t.m t.d) ∧ Rw W t.x t.n t.c t.f t.y t.m t.d t.g := fun j => by
      by_cases hj : j < len
      · obtain ⟨cs', h1, h2⟩ := hel j (by simp only [if_true] at hmm; omega)
        rw [Try.cellsR] at h1
        obtain ⟨h3, h4⟩ := cells_at h1
        match cs', h3 with
        | [c0, c1, c2], _ =>
          obtain ⟨s, x, n, c, f, y, m, b, g, rfl, rfl, rfl, hr⟩ := viewRc h2
          refine ⟨⟨s, x, n, c, f, y, m, b, g⟩, fun _ => ⟨?_, ?_, ?_, hr⟩⟩
          · have := h4 0 _ rfl; rwa [addr_add2, Nat.add_zero] at this
          · have := h4 1 _ rfl; rwa [addr_add2] at this
          · have := h4 2 _ rfl; rwa [addr_add2] at this
      · exact ⟨⟨false, none, 0, 0, fun _ => 0, none, 0, 0, fun _ => 0⟩, fun h => absurd h hj⟩
    obtain ⟨X, hY⟩ : ∃ X : Nat → Nm, ∀ j, j < len → W.cell? (a.add (j * 3)) = some (.bool (X j).s) ∧ W.cell? (a.add (j * 3 + 1)) = some (.slice (X j).x (X j).n (X j).c) ∧ W.cell? (a.add (j * 3 + 2)) = some (.slice (X j).y (X j).m (X j).d) ∧ Rw W (X j).x (X j).n (X j).c (X j).f (X j).y (X j).m (X j).d (X j).g := ⟨fun j => Classical.choose (hX j), fun j => Classical.choose_spec (hX j)⟩
    refine ⟨some a, len, cap, X, rfl, fun j hj => ?_, hl, by unfold maxLen at hm; omega⟩
    obtain ⟨h1, h2, h3, h4⟩ := hY j hj
    obtain ⟨h01, _⟩ := hY 0 (by omega)
    obtain ⟨b, off, spot⟩ := a
    have hspot : spot = none := by simpa [Addr.add] using World.cell?_spot h01
    subst hspot
    rw [addr_add] at h1 h2 h3
    exact ⟨b, off, rfl, ⟨h1, h2, h3⟩, h4⟩
set_option maxRecDepth 100000 in
/-- A list of statuses inside an argument. -/
theorem viewStF {H : Type} {enc : TypeId × Value → H} {W : World} {fuel : Nat} {v : Value} {x : DataW H × List MemPlace} (h : DataW.trod enc Try.prog W 0 (fun _ => true) true fuel 33 [v] = some x) :
    ∃ ao k c E, v = .slice ao k c ∧ El W ao k E ∧ (ao = none → k = 0 ∧ c = 0) ∧ (k ≤ c ∧ c ≤ 9223372036854775807) := by
  rcases open_ints Try.underlying33 Try.underlying87 Try.cellsSt h with ⟨hcs, hx⟩ | ⟨a, len', cap', zs, hcs, _, hl, hm, hz, hx, hcell, hwz⟩
  · simp at hcs
    subst hcs
    exact ⟨none, 0, 0, fun _ => 0, rfl, fun j hj => by omega, fun _ => ⟨rfl, rfl⟩, by omega, by omega⟩
  · simp at hcs
    subst hcs
    simp only [if_true] at hz
    refine ⟨some a, len', cap', fun j => zs.getD j 0, rfl, fun j hj => ?_, (fun h => by cases h), hl, by unfold maxLen at hm; omega⟩
    obtain ⟨b, off, spot⟩ := a
    have hspot : spot = none := by simpa [Addr.add] using World.cell?_spot (hcell 0 (by omega))
    subst hspot
    exact ⟨b, off, rfl, by have := hcell j (by omega); rwa [addr_add] at this⟩
set_option maxRecDepth 100000 in
/-- An argument that is a point. -/
theorem viewPt {H : Type} {enc : TypeId × Value → H} {W : World} {base : Nat} {v : Value} {d : DataW H} {p : List MemPlace} (hok : Value.okWide Try.prog W .any base 32 v) (h : DataW.Trod enc Try.prog W 0 (fun _ => true) true 32 v d p) :
    ∃ a0 k0 c0 X0 a1 k1 c1 X1 a2 k2 c2 X2, v = .agg #[.slice a0 k0 c0, .slice a1 k1 c1, .slice a2 k2 c2] ∧ (Rr W a0 k0 X0 ∧ k0 ≤ c0 ∧ c0 ≤ 9223372036854775807) ∧ (Rr W a1 k1 X1 ∧ k1 ≤ c1 ∧ c1 ≤ 9223372036854775807) ∧ (Rr W a2 k2 X2 ∧ k2 ≤ c2 ∧ c2 ≤ 9223372036854775807) := by
  obtain ⟨cs, rfl, hsz⟩ := okWide_struct Try.underlying32 hok
  rw [Try.cellsPt] at hsz
  obtain ⟨fuel, hf⟩ := h
  obtain ⟨l⟩ := cs
  match l, hsz with
  | [v0, v1, v2], _ =>
    obtain ⟨k, hk⟩ := fieldsN (fuel := fuel) Try.underlying32 hf
    obtain ⟨y0, g0⟩ := hk 0 _ rfl
    obtain ⟨y1, g1⟩ := hk 1 _ rfl
    obtain ⟨y2, g2⟩ := hk 2 _ rfl
    have g0' : DataW.trod enc Try.prog W 0 (fun _ => true) true k 30 [v0] = some y0 := g0
    have g1' : DataW.trod enc Try.prog W 0 (fun _ => true) true k 30 [v1] = some y1 := g1
    have g2' : DataW.trod enc Try.prog W 0 (fun _ => true) true k 30 [v2] = some y2 := g2
    obtain ⟨a0, k0, c0, X0, rfl, h0⟩ := viewRsF g0'
    obtain ⟨a1, k1, c1, X1, rfl, h1⟩ := viewRsF g1'
    obtain ⟨a2, k2, c2, X2, rfl, h2⟩ := viewRsF g2'
    exact ⟨a0, k0, c0, X0, a1, k1, c1, X1, a2, k2, c2, X2, rfl, h0, h1, h2⟩
set_option maxRecDepth 100000 in
/-- An argument that is a basis. -/
theorem viewBs {H : Type} {enc : TypeId × Value → H} {W : World} {base : Nat} {v : Value} {d : DataW H} {p : List MemPlace} (hok : Value.okWide Try.prog W .any base 35 v) (h : DataW.Trod enc Try.prog W 0 (fun _ => true) true 35 v d p) :
    ∃ a0 k0 c0 E0 a1 k1 c1 E1, v = .agg #[.slice a0 k0 c0, .slice a1 k1 c1] ∧ (El W a0 k0 E0 ∧ (a0 = none → k0 = 0 ∧ c0 = 0) ∧ k0 ≤ c0 ∧ c0 ≤ 9223372036854775807) ∧ (El W a1 k1 E1 ∧ (a1 = none → k1 = 0 ∧ c1 = 0) ∧ k1 ≤ c1 ∧ c1 ≤ 9223372036854775807) := by
  obtain ⟨cs, rfl, hsz⟩ := okWide_struct Try.underlying35 hok
  rw [Try.cellsBs] at hsz
  obtain ⟨fuel, hf⟩ := h
  obtain ⟨l⟩ := cs
  match l, hsz with
  | [v0, v1], _ =>
    obtain ⟨k, hk⟩ := fieldsN (fuel := fuel) Try.underlying35 hf
    obtain ⟨y0, g0⟩ := hk 0 _ rfl
    obtain ⟨y1, g1⟩ := hk 1 _ rfl
    have g0' : DataW.trod enc Try.prog W 0 (fun _ => true) true k 33 [v0] = some y0 := g0
    have g1' : DataW.trod enc Try.prog W 0 (fun _ => true) true k 33 [v1] = some y1 := g1
    obtain ⟨a0, k0, c0, E0, rfl, h0⟩ := viewStF g0'
    obtain ⟨a1, k1, c1, E1, rfl, h1⟩ := viewStF g1'
    exact ⟨a0, k0, c0, E0, a1, k1, c1, E1, rfl, h0, h1⟩
set_option maxRecDepth 100000 in
/-- An argument that is a certificate. -/
theorem viewCt {H : Type} {enc : TypeId × Value → H} {W : World} {base : Nat} {v : Value} {d : DataW H} {p : List MemPlace} (hok : Value.okWide Try.prog W .any base 55 v) (h : DataW.Trod enc Try.prog W 0 (fun _ => true) true 55 v d p) :
    ∃ a0 k0 c0 X0 a1 k1 c1 X1 a2 k2 c2 X2 a3 k3 c3 X3, v = .agg #[.slice a0 k0 c0, .slice a1 k1 c1, .slice a2 k2 c2, .slice a3 k3 c3] ∧ (Rr W a0 k0 X0 ∧ k0 ≤ c0 ∧ c0 ≤ 9223372036854775807) ∧ (Rr W a1 k1 X1 ∧ k1 ≤ c1 ∧ c1 ≤ 9223372036854775807) ∧ (Rr W a2 k2 X2 ∧ k2 ≤ c2 ∧ c2 ≤ 9223372036854775807) ∧ (Rr W a3 k3 X3 ∧ k3 ≤ c3 ∧ c3 ≤ 9223372036854775807) := by
  obtain ⟨cs, rfl, hsz⟩ := okWide_struct Try.underlying55 hok
  rw [Try.cellsCt] at hsz
  obtain ⟨fuel, hf⟩ := h
  obtain ⟨l⟩ := cs
  match l, hsz with
  | [v0, v1, v2, v3], _ =>
    obtain ⟨k, hk⟩ := fieldsN (fuel := fuel) Try.underlying55 hf
    obtain ⟨y0, g0⟩ := hk 0 _ rfl
    obtain ⟨y1, g1⟩ := hk 1 _ rfl
    obtain ⟨y2, g2⟩ := hk 2 _ rfl
    obtain ⟨y3, g3⟩ := hk 3 _ rfl
    have g0' : DataW.trod enc Try.prog W 0 (fun _ => true) true k 30 [v0] = some y0 := g0
    have g1' : DataW.trod enc Try.prog W 0 (fun _ => true) true k 30 [v1] = some y1 := g1
    have g2' : DataW.trod enc Try.prog W 0 (fun _ => true) true k 30 [v2] = some y2 := g2
    have g3' : DataW.trod enc Try.prog W 0 (fun _ => true) true k 30 [v3] = some y3 := g3
    obtain ⟨a0, k0, c0, X0, rfl, h0⟩ := viewRsF g0'
    obtain ⟨a1, k1, c1, X1, rfl, h1⟩ := viewRsF g1'
    obtain ⟨a2, k2, c2, X2, rfl, h2⟩ := viewRsF g2'
    obtain ⟨a3, k3, c3, X3, rfl, h3⟩ := viewRsF g3'
    exact ⟨a0, k0, c0, X0, a1, k1, c1, X1, a2, k2, c2, X2, a3, k3, c3, X3, rfl, h0, h1, h2, h3⟩
end Go.Proofs.Ytllpllebmknmpaa
namespace Go.Proofs.Ytllpllebmknmpaa
open Go.RowKit

theorem nou_list {l : List Value} (h : ∀ u ∈ l, ∀ z, u ≠ .int .u64 z) : NoU l.toArray := fun i z he => by
  rw [List.getElem?_toArray] at he
  exact h _ (List.mem_of_getElem? he) z rfl
end Go.Proofs.Ytllpllebmknmpaa
namespace Go.Proofs.Ytllpllebmknmpaa
open Go.RowKit

/-- A block, whole: it may be written. -/
def Bk (w : World) (B : Nat) (vs : List Value) (t : TypeId) : Prop := w.heap[B]? = some (.cells vs.toArray t (0, 0))
theorem bk_new (w : World) (vs : List Value) (t : TypeId) : Bk (w.alloc (.cells vs.toArray t)) w.heap.size vs t := heap_alloc_new w _
theorem Bk.lt {w B vs t} (h : Bk w B vs t) : B < w.heap.size := (Array.getElem?_eq_some_iff.1 h).1
theorem Bk.below {w w' B vs t} (h : Bk w B vs t) (hb : Below w.heap.size w w') : Bk w' B vs t := (hb.block B h.lt).trans h
theorem Bk.cell {w B vs t} (h : Bk w B vs t) {j : Nat} {v : Value} (hv : vs[j]? = some v) : w.cell? ⟨B, j, none⟩ = some v := by
  unfold Bk at h
  simp only [World.cell?, h]
  simpa using hv
theorem Bk.frozen {w B vs t} (h : Bk w B vs t) (o : Nat) : w.frozen? ⟨B, o, none⟩ = false := by
  unfold Bk at h
  simp [World.frozen?, h]
/-- One cell of a block that is written. -/
theorem Bk.set {w B vs t} (h : Bk w B vs t) (j : Nat) (v : Value) : Bk (w.setCell ⟨B, j, none⟩ v) B (vs.set j v) t := by
  unfold Bk at *
  simp [World.setCell, Array.getElem?_modify, h]
theorem Bk.of {w w' B vs t} (h : Bk w B vs t) (hb : w'.heap[B]? = w.heap[B]?) : Bk w' B vs t := hb.trans h
/-- A block's cells written one after another. -/
def stl (B : Nat) : Nat → List Value → World → World
  | _, [], w => w
  | o, v :: vs, w => stl B (o + 1) vs (w.setCell ⟨B, o, none⟩ v)
theorem stl_at (B : Nat) : ∀ (vs : List Value) (o : Nat) (w : World), (stl B o vs w).os = w.os ∧ (stl B o vs w).tape = w.tape ∧ (stl B o vs w).output = w.output ∧ (stl B o vs w).heap.size = w.heap.size ∧ ∀ k, k ≠ B → (stl B o vs w).heap[k]? = w.heap[k]?
  | [], o, w => ⟨rfl, rfl, rfl, rfl, fun _ _ => rfl⟩
  | v :: vs, o, w => by
    obtain ⟨h1, h2, h3, h4, h5⟩ := stl_at B vs (o + 1) (w.setCell ⟨B, o, none⟩ v)
    refine ⟨h1, h2, h3, ?_, fun k hk => ?_⟩
    · show (stl B (o + 1) vs (w.setCell ⟨B, o, none⟩ v)).heap.size = _
      rw [h4]; simp [World.setCell]
    · show (stl B (o + 1) vs (w.setCell ⟨B, o, none⟩ v)).heap[k]? = _
      rw [h5 k hk]; exact Below.heap_setCell _ _ _ _ hk
theorem st_new {w w6 : World} {B : Nat} {us : List Value} {t : TypeId} (vs : List Value) (h : Bk w6 B us t) (hu : NoU us.toArray) (hb : Below w.heap.size w w6) (hB : w.heap.size ≤ B) :
    Below w.heap.size w (stl B 0 vs w6) ∧ Kp w6 (stl B 0 vs w6) ∧ ∀ k, k ≠ B → (stl B 0 vs w6).heap[k]? = w6.heap[k]? := by
  obtain ⟨h1, h2, h3, h4, h5⟩ := stl_at B vs 0 w6
  refine ⟨hb.trans ⟨h1, h2, h3, by omega, fun k hk => h5 k (by omega)⟩, ⟨h1, h2, h3, by omega, fun k _ => ?_⟩, h5⟩
  by_cases hk : k = B
  · subst hk; exact .inr ⟨_, t, (0, 0), h, hu⟩
  · exact .inl (h5 k hk)
end Go.Proofs.Ytllpllebmknmpaa
namespace Go.Proofs.Ytllpllebmknmpaa
open Go.RowKit

theorem kBdn {w0 w : World} {q : Nat} (h : Below w0.heap.size w0 w) : Below w0.heap.size w0 (w.drewN q) := below_drewN h q
end Go.Proofs.Ytllpllebmknmpaa
namespace Go.Proofs.Ytllpllebmknmpaa
open Go.RowKit

/-- A list of numbers that reads as p, in form, of at most L limbs. -/
def Rf (L : Nat) (w : World) (ao : Option Addr) (p : List Rat) : Prop :=
  ∀ (j : Nat) (q : Rat), p[j]? = some q → ∃ b o, ∃ t : Nm, ao = some ⟨b, o, none⟩ ∧ C3 w b (o + j * 3) (.bool t.s) (.slice t.x t.n t.c) (.slice t.y t.m t.d) ∧ Rn L w t.s t.x t.n t.c t.f t.y t.m t.d t.g q
theorem Rf.below {L w w' ao p} (h : Rf L w ao p) (hb : Below w.heap.size w w') : Rf L w' ao p := fun j q hj => by
  obtain ⟨b, o, t, e, h1, h2⟩ := h j q hj
  exact ⟨b, o, t, e, h1.below hb, h2.below hb⟩
end Go.Proofs.Ytllpllebmknmpaa
namespace Go.Proofs.Ytllpllebmknmpaa
open Go.RowKit

theorem Dn.len {w x n d A y m g B} (ha : Dn w x n d A) (hb : Dn w y m g B) (hle : A ≤ B) : n ≤ m := vd_len ha.dg hb.dg ha.fm (by rw [ha.val, hb.val]; omega)
end Go.Proofs.Ytllpllebmknmpaa
namespace Go.Proofs.Ytllpllebmknmpaa
open Go.RowKit

/-- A box that holds a sign and a list, and may be written. -/
structure X2 (w : World) (B : Nat) (s : Bool) (x : Option Addr) (n c : Nat) : Prop where
  z : B < w.heap.size
  c0 : w.cell? ⟨B, 0, none⟩ = some (.bool s)
  c1 : w.cell? ⟨B, 1, none⟩ = some (.slice x n c)
  zf : ∀ o, w.frozen? ⟨B, o, none⟩ = false
theorem X2.below {w w' B s x n c} (h : X2 w B s x n c) (hb : Below w.heap.size w w') : X2 w' B s x n c := by
  obtain ⟨h1, h2⟩ := bcell hb
  exact ⟨Nat.lt_of_lt_of_le h.z hb.size, kCb hb h.c0, kCb hb h.c1, fun o => (h2 _ _ h.z).trans (h.zf o)⟩
/-- A number stored into such a box. -/
theorem X2.put {w B s x n c} (h : X2 w B s x n c) (r : Bool) (y : Option Addr) (m d : Nat) : X2 ((w.setCell ⟨B, 0, none⟩ (.bool r)).setCell ⟨B, 1, none⟩ (.slice y m d)) B r y m d :=
  ⟨by simpa [World.setCell] using h.z, kCo (by decide) (kCe (kI0 h.c0)), kCe (kIs (kI0 h.c1)), fun o => kFs (kFs (h.zf o))⟩
theorem X2.dn {w B s x n c u0 u1 y m d V} (h : X2 w B s x n c) (hx : Dn w y m d V) : Dn ((w.setCell ⟨B, 0, none⟩ u0).setCell ⟨B, 1, none⟩ u1) y m d V :=
  ⟨rd_setne (cell_off (by decide) h.c1) (fun i h => by cases h) (rd_setne h.c0 (fun i h => by cases h) hx.rd), hx.dg, hx.fm, hx.val⟩
theorem X2.zn {w B s x n c u0 u1 t y m d v} (h : X2 w B s x n c) (hx : Zn w t y m d v) : Zn ((w.setCell ⟨B, 0, none⟩ u0).setCell ⟨B, 1, none⟩ u1) t y m d v := ⟨h.dn hx.dn, hx.sgn, hx.pos⟩
theorem X2.drew {w B s x n c} (h : X2 w B s x n c) : X2 w.drew B s x n c := ⟨h.z, h.c0, h.c1, h.zf⟩
end Go.Proofs.Ytllpllebmknmpaa
namespace Go.Proofs.Ytllpllebmknmpaa
open Go.RowKit

theorem Rf.mono {L L' w ao p} (h : Rf L w ao p) (hL : L ≤ L') : Rf L' w ao p := fun j q hj => by
  obtain ⟨b, o, t, e, h1, h2⟩ := h j q hj
  exact ⟨b, o, t, e, h1, h2.mono hL⟩

end Go.Proofs.Ytllpllebmknmpaa
namespace Go.Proofs.Ytllpllebmknmpaa
open Go.RowKit

set_option maxRecDepth 100000 in
set_option maxHeartbeats 4000000 in
theorem samesEq_c {w : World} {L L' : Nat} {ao bo : Option Addr} {k ca cb : Nat} {p : List Rat} (ha : Rf L w ao p) (hb : Rf L' w bo p) (hk : p.length = k) (hk2 : k ≤ 1048576) (h1 : L ≤ 1048576) (h2 : L' ≤ 1048576) :
    Calls Try.prog 16 #[.slice ao k ca, .slice bo k cb] w fun e w' => e = .returned (.bool true) ∧ Below w.heap.size w w' := by
  have HA := hid ha; have HB := hid hb
  have hkk : (((k : Nat) : Int) != ((k : Nat) : Int)) = false := by simp
  clear ha hb
  go_enter Try.func16, Try.ntmps16
  go_wp2_with fail
  go_loopw [13] (fun t wr => ∃ (i : Nat), i ≤ k ∧ t = .int .i64 i ∧ Hid (Below w.heap.size w wr)) (fun t _ => k - (intOf t).toNat)
  case atStart => exact ⟨0, by omega, rfl, Below.refl _ _⟩
  case round =>
    obtain ⟨i, hi, rfl, HW⟩ := hrel
    by_cases hlt : i < k
    · obtain ⟨q, hq⟩ : ∃ q, p[i]? = some q := ⟨_, List.getElem?_eq_getElem (by omega)⟩
      obtain ⟨b, o, ⟨ts, tx, tn, tc, tf, ty, tm, td, tg⟩, rfl, hc, hr⟩ := (HA.out.below HW.out) i q hq
      obtain ⟨b', o', ⟨ss, sx, sn, sc, sf, sy, sm, sd, sg⟩, rfl, hc', hr'⟩ := (HB.out.below HW.out) i q hq
      obtain ⟨x0, x1, x2⟩ := hc
      obtain ⟨p0, p1, p2⟩ := hc'
      replace x0 : wr.cell? ⟨b, o + i * 3, none⟩ = some (.bool ts) := x0
      replace x1 : wr.cell? ⟨b, o + i * 3 + 1, none⟩ = some (.slice tx tn tc) := x1
      replace x2 : wr.cell? ⟨b, o + i * 3 + 2, none⟩ = some (.slice ty tm td) := x2
      replace p0 : wr.cell? ⟨b', o' + i * 3, none⟩ = some (.bool ss) := p0
      replace p1 : wr.cell? ⟨b', o' + i * 3 + 1, none⟩ = some (.slice sx sn sc) := p1
      replace p2 : wr.cell? ⟨b', o' + i * 3 + 2, none⟩ = some (.slice sy sm sd) := p2
      have CS : Hid (∀ W, Below wr.heap.size wr W → Calls Try.prog 30 #[.agg #[.bool ts, .slice tx tn tc, .slice ty tm td], .agg #[.bool ss, .slice sx sn sc, .slice sy sm sd]] W fun e w' => e = .returned (.bool true) ∧ Below W.heap.size W w') := fun W hW =>
        rSameEq_c (Rn.below hr hW) (Rn.below hr' hW) h1 h2
      have i2 : ((i : Nat) : Int) < ((k : Nat) : Int) := by omega
      clear hr hr' hq
      go_upto_region 6 with fail
      go_region_held3 (fun w' => w'.cell? ⟨b, o + i * 3, none⟩ = some (.bool ts) ∧ w'.cell? ⟨b, o + i * 3 + 1, none⟩ = some (.slice tx tn tc) ∧ w'.cell? ⟨b, o + i * 3 + 2, none⟩ = some (.slice ty tm td) ∧ w'.cell? ⟨b', o' + i * 3, none⟩ = some (.bool ss) ∧ w'.cell? ⟨b', o' + i * 3 + 1, none⟩ = some (.slice sx sn sc) ∧ w'.cell? ⟨b', o' + i * 3 + 2, none⟩ = some (.slice sy sm sd))
        (refine ⟨?_, ?_, ?_, ?_, ?_, ?_⟩ <;> repeat (with_reducible first | assumption | refine kCd ?_ | refine kCb (by assumption) ?_))
        ((go_at_call 30; with_reducible refine (CS.out _ (by repeat (with_reducible first | assumption | exact Below.refl _ _ | refine kBdn ?_ | refine Below.drew ?_))).mono ?_; rintro e w5 ⟨rfl, hb5⟩))
      all_goals
        (have HW5 : Hid (Below w.heap.size w w5) := hid (HW.out.trans (Below.mono (show Below wr.heap.size wr w5 by repeat (with_reducible first | assumption | exact Below.refl _ _ | refine kBdn ?_ | refine Below.drew ?_ | refine kBb (by assumption) ?_)) HW.out.size))
         clear x0 x1 x2 p0 p1 p2 CS hb5
         go_wp2
         go_roundw
         case rel => exact ⟨i + 1, by omega, by go_num, (by first | exact HW5.out | exact HW5.out.drew | exact below_drewN HW5.out _)⟩
         case measure => simp [intOf]; omega)
    · have i2 : ¬ (((i : Nat) : Int) < ((k : Nat) : Int)) := by omega
      go_wp2
      go_ret
      exact ⟨rfl, HW.out⟩

end Go.Proofs.Ytllpllebmknmpaa
namespace Go.Proofs.Ytllpllebmknmpaa
open Go.RowKit

theorem rf_nil (L : Nat) (w : World) (ao : Option Addr) : Rf L w ao [] := fun j q hj => by simp at hj
theorem el_nil (w : World) (ao : Option Addr) (E : Nat → Int) : El w ao 0 E := fun j hj => by omega
theorem El.below {w w' ao k E} (h : El w ao k E) (hb : Below w.heap.size w w') : El w' ao k E := fun j hj => by
  obtain ⟨b, o, e, h1⟩ := h j hj
  exact ⟨b, o, e, kCb hb h1⟩
set_option maxRecDepth 100000 in
set_option maxHeartbeats 4000000 in
theorem samePt_c {w : World} {L L2 : Nat} {a0 b0 a1 b1 a2 b2 : Option Addr} {k0 c0 d0 k1 c1 d1 k2 c2 d2 : Nat} {p0 p1 p2 : List Rat} (ha0 : Rf L w a0 p0) (hb0 : Rf L2 w b0 p0) (hk0 : p0.length = k0) (hl0 : k0 ≤ 1048576) (ha1 : Rf L w a1 p1) (hb1 : Rf L2 w b1 p1) (hk1 : p1.length = k1) (hl1 : k1 ≤ 1048576) (ha2 : Rf L w a2 p2) (hb2 : Rf L2 w b2 p2) (hk2 : p2.length = k2) (hl2 : k2 ≤ 1048576) (hL : L ≤ 1048576) (hL2 : L2 ≤ 1048576) :
    Calls Try.prog 21 #[.agg #[.slice a0 k0 c0, .slice a1 k1 c1, .slice a2 k2 c2], .agg #[.slice b0 k0 d0, .slice b1 k1 d1, .slice b2 k2 d2]] w fun e w' => e = .returned (.bool true) ∧ Below w.heap.size w w' := by
  have C0 := hid (fun W (hW : Below w.heap.size w W) => samesEq_c (w := W) (ca := c0) (cb := d0) (ha0.below hW) (hb0.below hW) hk0 hl0 hL hL2)
  have C1 := hid (fun W (hW : Below w.heap.size w W) => samesEq_c (w := W) (ca := c1) (cb := d1) (ha1.below hW) (hb1.below hW) hk1 hl1 hL hL2)
  have C2 := hid (fun W (hW : Below w.heap.size w W) => samesEq_c (w := W) (ca := c2) (cb := d2) (ha2.below hW) (hb2.below hW) hk2 hl2 hL hL2)
  clear ha0 hb0 ha1 hb1 ha2 hb2
  have hb := below_alloc (below_alloc (Below.refl w.heap.size w) (.cells #[.slice a0 k0 c0, .slice a1 k1 c1, .slice a2 k2 c2] 32)) (.cells #[.slice b0 k0 d0, .slice b1 k1 d1, .slice b2 k2 d2] 32)
  have B1 : Bk ((w.alloc (.cells #[.slice a0 k0 c0, .slice a1 k1 c1, .slice a2 k2 c2] 32)).alloc (.cells #[.slice b0 k0 d0, .slice b1 k1 d1, .slice b2 k2 d2] 32)) w.heap.size [.slice a0 k0 c0, .slice a1 k1 c1, .slice a2 k2 c2] 32 := (bk_new w [.slice a0 k0 c0, .slice a1 k1 c1, .slice a2 k2 c2] 32).below (below_alloc (Below.refl _ _) (.cells #[.slice b0 k0 d0, .slice b1 k1 d1, .slice b2 k2 d2] 32))
  have B2 : Bk ((w.alloc (.cells #[.slice a0 k0 c0, .slice a1 k1 c1, .slice a2 k2 c2] 32)).alloc (.cells #[.slice b0 k0 d0, .slice b1 k1 d1, .slice b2 k2 d2] 32)) (w.heap.size + 1) [.slice b0 k0 d0, .slice b1 k1 d1, .slice b2 k2 d2] 32 := by
    have := bk_new (w.alloc (.cells #[.slice a0 k0 c0, .slice a1 k1 c1, .slice a2 k2 c2] 32)) [.slice b0 k0 d0, .slice b1 k1 d1, .slice b2 k2 d2] 32
    rw [size_alloc1] at this
    exact this
  go_enter Try.func21, Try.ntmps21
  go_upto_region 1 with fail
  generalize (w.alloc (.cells #[.slice a0 k0 c0, .slice a1 k1 c1, .slice a2 k2 c2] 32)).alloc (.cells #[.slice b0 k0 d0, .slice b1 k1 d1, .slice b2 k2 d2] 32) = w1 at *
  have HB := hid hb; have HB1 := hid B1; have HB2 := hid B2
  clear hb B1 B2
  have r0 := HB1.out.cell (j := 0) rfl
  have l0 := HB2.out.cell (j := 0) rfl
  go_wp2_with fail
  refine (C0.out _ HB.out).mono ?_
  rintro e w2 ⟨rfl, hb0⟩
  replace HB := hid (HB.out.trans (hb0.mono HB.out.size)); replace HB1 := hid (HB1.out.below hb0); replace HB2 := hid (HB2.out.below hb0)
  clear hb0 r0 l0
  have r1 := HB1.out.cell (j := 1) rfl
  have l1 := HB2.out.cell (j := 1) rfl
  go_wp2_with fail
  refine (C1.out _ HB.out).mono ?_
  rintro e w3 ⟨rfl, hb1⟩
  replace HB := hid (HB.out.trans (hb1.mono HB.out.size)); replace HB1 := hid (HB1.out.below hb1); replace HB2 := hid (HB2.out.below hb1)
  clear hb1 r1 l1
  have r2 := HB1.out.cell (j := 2) rfl
  have l2 := HB2.out.cell (j := 2) rfl
  go_wp2_with fail
  refine (C2.out _ HB.out).mono ?_
  rintro e w4 ⟨rfl, hb2⟩
  replace HB := hid (HB.out.trans (hb2.mono HB.out.size)); replace HB1 := hid (HB1.out.below hb2); replace HB2 := hid (HB2.out.below hb2)
  clear hb2 r2 l2
  go_wp2
  go_ret
  exact ⟨rfl, HB.out⟩
set_option maxRecDepth 100000 in
set_option maxHeartbeats 4000000 in
theorem sameCt_c {w : World} {L L2 : Nat} {a0 b0 a1 b1 a2 b2 a3 b3 : Option Addr} {k0 c0 d0 k1 c1 d1 k2 c2 d2 k3 c3 d3 : Nat} {p0 p1 p2 p3 : List Rat} (ha0 : Rf L w a0 p0) (hb0 : Rf L2 w b0 p0) (hk0 : p0.length = k0) (hl0 : k0 ≤ 1048576) (ha1 : Rf L w a1 p1) (hb1 : Rf L2 w b1 p1) (hk1 : p1.length = k1) (hl1 : k1 ≤ 1048576) (ha2 : Rf L w a2 p2) (hb2 : Rf L2 w b2 p2) (hk2 : p2.length = k2) (hl2 : k2 ≤ 1048576) (ha3 : Rf L w a3 p3) (hb3 : Rf L2 w b3 p3) (hk3 : p3.length = k3) (hl3 : k3 ≤ 1048576) (hL : L ≤ 1048576) (hL2 : L2 ≤ 1048576) :
    Calls Try.prog 28 #[.agg #[.slice a0 k0 c0, .slice a1 k1 c1, .slice a2 k2 c2, .slice a3 k3 c3], .agg #[.slice b0 k0 d0, .slice b1 k1 d1, .slice b2 k2 d2, .slice b3 k3 d3]] w fun e w' => e = .returned (.bool true) ∧ Below w.heap.size w w' := by
  have C0 := hid (fun W (hW : Below w.heap.size w W) => samesEq_c (w := W) (ca := c0) (cb := d0) (ha0.below hW) (hb0.below hW) hk0 hl0 hL hL2)
  have C1 := hid (fun W (hW : Below w.heap.size w W) => samesEq_c (w := W) (ca := c1) (cb := d1) (ha1.below hW) (hb1.below hW) hk1 hl1 hL hL2)
  have C2 := hid (fun W (hW : Below w.heap.size w W) => samesEq_c (w := W) (ca := c2) (cb := d2) (ha2.below hW) (hb2.below hW) hk2 hl2 hL hL2)
  have C3 := hid (fun W (hW : Below w.heap.size w W) => samesEq_c (w := W) (ca := c3) (cb := d3) (ha3.below hW) (hb3.below hW) hk3 hl3 hL hL2)
  clear ha0 hb0 ha1 hb1 ha2 hb2 ha3 hb3
  have hb := below_alloc (below_alloc (Below.refl w.heap.size w) (.cells #[.slice a0 k0 c0, .slice a1 k1 c1, .slice a2 k2 c2, .slice a3 k3 c3] 55)) (.cells #[.slice b0 k0 d0, .slice b1 k1 d1, .slice b2 k2 d2, .slice b3 k3 d3] 55)
  have B1 : Bk ((w.alloc (.cells #[.slice a0 k0 c0, .slice a1 k1 c1, .slice a2 k2 c2, .slice a3 k3 c3] 55)).alloc (.cells #[.slice b0 k0 d0, .slice b1 k1 d1, .slice b2 k2 d2, .slice b3 k3 d3] 55)) w.heap.size [.slice a0 k0 c0, .slice a1 k1 c1, .slice a2 k2 c2, .slice a3 k3 c3] 55 := (bk_new w [.slice a0 k0 c0, .slice a1 k1 c1, .slice a2 k2 c2, .slice a3 k3 c3] 55).below (below_alloc (Below.refl _ _) (.cells #[.slice b0 k0 d0, .slice b1 k1 d1, .slice b2 k2 d2, .slice b3 k3 d3] 55))
  have B2 : Bk ((w.alloc (.cells #[.slice a0 k0 c0, .slice a1 k1 c1, .slice a2 k2 c2, .slice a3 k3 c3] 55)).alloc (.cells #[.slice b0 k0 d0, .slice b1 k1 d1, .slice b2 k2 d2, .slice b3 k3 d3] 55)) (w.heap.size + 1) [.slice b0 k0 d0, .slice b1 k1 d1, .slice b2 k2 d2, .slice b3 k3 d3] 55 := by
    have := bk_new (w.alloc (.cells #[.slice a0 k0 c0, .slice a1 k1 c1, .slice a2 k2 c2, .slice a3 k3 c3] 55)) [.slice b0 k0 d0, .slice b1 k1 d1, .slice b2 k2 d2, .slice b3 k3 d3] 55
    rw [size_alloc1] at this
    exact this
  go_enter Try.func28, Try.ntmps28
  go_upto_region 1 with fail
  generalize (w.alloc (.cells #[.slice a0 k0 c0, .slice a1 k1 c1, .slice a2 k2 c2, .slice a3 k3 c3] 55)).alloc (.cells #[.slice b0 k0 d0, .slice b1 k1 d1, .slice b2 k2 d2, .slice b3 k3 d3] 55) = w1 at *
  have HB := hid hb; have HB1 := hid B1; have HB2 := hid B2
  clear hb B1 B2
  have r0 := HB1.out.cell (j := 0) rfl
  have l0 := HB2.out.cell (j := 0) rfl
  go_wp2_with fail
  refine (C0.out _ HB.out).mono ?_
  rintro e w2 ⟨rfl, hb0⟩
  replace HB := hid (HB.out.trans (hb0.mono HB.out.size)); replace HB1 := hid (HB1.out.below hb0); replace HB2 := hid (HB2.out.below hb0)
  clear hb0 r0 l0
  have r1 := HB1.out.cell (j := 1) rfl
  have l1 := HB2.out.cell (j := 1) rfl
  go_wp2_with fail
  refine (C1.out _ HB.out).mono ?_
  rintro e w3 ⟨rfl, hb1⟩
  replace HB := hid (HB.out.trans (hb1.mono HB.out.size)); replace HB1 := hid (HB1.out.below hb1); replace HB2 := hid (HB2.out.below hb1)
  clear hb1 r1 l1
  have r2 := HB1.out.cell (j := 2) rfl
  have l2 := HB2.out.cell (j := 2) rfl
  go_wp2_with fail
  refine (C2.out _ HB.out).mono ?_
  rintro e w4 ⟨rfl, hb2⟩
  replace HB := hid (HB.out.trans (hb2.mono HB.out.size)); replace HB1 := hid (HB1.out.below hb2); replace HB2 := hid (HB2.out.below hb2)
  clear hb2 r2 l2
  have r3 := HB1.out.cell (j := 3) rfl
  have l3 := HB2.out.cell (j := 3) rfl
  go_wp2_with fail
  refine (C3.out _ HB.out).mono ?_
  rintro e w5 ⟨rfl, hb3⟩
  replace HB := hid (HB.out.trans (hb3.mono HB.out.size)); replace HB1 := hid (HB1.out.below hb3); replace HB2 := hid (HB2.out.below hb3)
  clear hb3 r3 l3
  go_wp2
  go_ret
  exact ⟨rfl, HB.out⟩
set_option maxRecDepth 100000 in
set_option maxHeartbeats 4000000 in
theorem stListEq_c {w : World} {ao bo : Option Addr} {k ca cb : Nat} {E : Nat → Int} (ha : El w ao k E) (hb : El w bo k E) (hk : k ≤ 1048576) :
    Calls Try.prog 41 #[.slice ao k ca, .slice bo k cb] w fun e w' => e = .returned (.bool true) ∧ Below w.heap.size w w' := by
  have HA := hid ha; have HB := hid hb
  have hkk : (((k : Nat) : Int) != ((k : Nat) : Int)) = false := by simp
  clear ha hb
  go_enter Try.func41, Try.ntmps41
  go_wp2_with fail
  go_loopw [13] (fun t wr => ∃ (i : Nat), i ≤ k ∧ t = .int .i64 i ∧ Hid (Below w.heap.size w wr)) (fun t _ => k - (intOf t).toNat)
  case atStart => exact ⟨0, by omega, rfl, Below.refl _ _⟩
  case round =>
    obtain ⟨i, hi, rfl, HW⟩ := hrel
    by_cases hlt : i < k
    · obtain ⟨b, o, rfl, x0⟩ := (HA.out.below HW.out) i hlt
      obtain ⟨b', o', rfl, x1⟩ := (HB.out.below HW.out) i hlt
      obtain ⟨z, hz⟩ : ∃ z, E i = z := ⟨_, rfl⟩
      rw [hz] at x0 x1
      have hzz : (z != z) = false := by simp
      have i2 : ((i : Nat) : Int) < ((k : Nat) : Int) := by omega
      clear hz
      go_upto_region 6 with fail
      go_quiet (fail)
      go_wp2
      go_roundw
      case rel => exact ⟨i + 1, by omega, by go_num, (by first | exact HW.out | exact HW.out.drew | exact below_drewN HW.out _)⟩
      case measure => simp [intOf]; omega
    · have i2 : ¬ (((i : Nat) : Int) < ((k : Nat) : Int)) := by omega
      go_wp2
      go_ret
      exact ⟨rfl, HW.out⟩
set_option maxRecDepth 100000 in
set_option maxHeartbeats 4000000 in
theorem sameBs_c {w : World} {a0 b0 a1 b1 : Option Addr} {k0 c0 d0 k1 c1 d1 : Nat} {E0 E1 : Nat → Int} (ha0 : El w a0 k0 E0) (hb0 : El w b0 k0 E0) (hl0 : k0 ≤ 1048576) (ha1 : El w a1 k1 E1) (hb1 : El w b1 k1 E1) (hl1 : k1 ≤ 1048576) :
    Calls Try.prog 25 #[.agg #[.slice a0 k0 c0, .slice a1 k1 c1], .agg #[.slice b0 k0 d0, .slice b1 k1 d1]] w fun e w' => e = .returned (.bool true) ∧ Below w.heap.size w w' := by
  have C0 := hid (fun W (hW : Below w.heap.size w W) => stListEq_c (w := W) (ca := c0) (cb := d0) (ha0.below hW) (hb0.below hW) hl0)
  have C1 := hid (fun W (hW : Below w.heap.size w W) => stListEq_c (w := W) (ca := c1) (cb := d1) (ha1.below hW) (hb1.below hW) hl1)
  clear ha0 hb0 ha1 hb1
  have hb := below_alloc (below_alloc (Below.refl w.heap.size w) (.cells #[.slice a0 k0 c0, .slice a1 k1 c1] 35)) (.cells #[.slice b0 k0 d0, .slice b1 k1 d1] 35)
  have B1 : Bk ((w.alloc (.cells #[.slice a0 k0 c0, .slice a1 k1 c1] 35)).alloc (.cells #[.slice b0 k0 d0, .slice b1 k1 d1] 35)) w.heap.size [.slice a0 k0 c0, .slice a1 k1 c1] 35 := (bk_new w [.slice a0 k0 c0, .slice a1 k1 c1] 35).below (below_alloc (Below.refl _ _) (.cells #[.slice b0 k0 d0, .slice b1 k1 d1] 35))
  have B2 : Bk ((w.alloc (.cells #[.slice a0 k0 c0, .slice a1 k1 c1] 35)).alloc (.cells #[.slice b0 k0 d0, .slice b1 k1 d1] 35)) (w.heap.size + 1) [.slice b0 k0 d0, .slice b1 k1 d1] 35 := by
    have := bk_new (w.alloc (.cells #[.slice a0 k0 c0, .slice a1 k1 c1] 35)) [.slice b0 k0 d0, .slice b1 k1 d1] 35
    rw [size_alloc1] at this
    exact this
  go_enter Try.func25, Try.ntmps25
  go_upto_region 1 with fail
  generalize (w.alloc (.cells #[.slice a0 k0 c0, .slice a1 k1 c1] 35)).alloc (.cells #[.slice b0 k0 d0, .slice b1 k1 d1] 35) = w1 at *
  have HB := hid hb; have HB1 := hid B1; have HB2 := hid B2
  clear hb B1 B2
  have r0 := HB1.out.cell (j := 0) rfl
  have l0 := HB2.out.cell (j := 0) rfl
  go_wp2_with fail
  refine (C0.out _ HB.out).mono ?_
  rintro e w2 ⟨rfl, hb0⟩
  replace HB := hid (HB.out.trans (hb0.mono HB.out.size)); replace HB1 := hid (HB1.out.below hb0); replace HB2 := hid (HB2.out.below hb0)
  clear hb0 r0 l0
  have r1 := HB1.out.cell (j := 1) rfl
  have l1 := HB2.out.cell (j := 1) rfl
  go_wp2_with fail
  refine (C1.out _ HB.out).mono ?_
  rintro e w3 ⟨rfl, hb1⟩
  replace HB := hid (HB.out.trans (hb1.mono HB.out.size)); replace HB1 := hid (HB1.out.below hb1); replace HB2 := hid (HB2.out.below hb1)
  clear hb1 r1 l1
  go_wp2
  go_ret
  exact ⟨rfl, HB.out⟩
theorem sprimalN_c {w : World} {ao : Option Addr} {l cap : Nat} :
    Calls Try.prog 13 #[.pointer none, .slice ao l cap] w fun e w' => e = .returned (.tuple #[.slice none 0 0, .int .i64 9]) ∧ w' = w := by
  have CN : Hid (∀ fv, Calls Try.prog 32 #[.pointer none, fv, .slice ao l cap] w fun e w' => e = .returned (.tuple #[.slice none 0 0, .int .i64 9]) ∧ w' = w) := fun fv => by
    go_enter Try.func32, Try.ntmps32
    go_wp2
    go_ret2
    exact ⟨rfl, rfl⟩
  go_enter Try.func13, Try.ntmps13
  go_wp2_with fail
  refine (CN.out _).mono ?_
  rintro e w1 ⟨rfl, rfl⟩
  go_wp2
  go_ret2
  exact ⟨rfl, rfl⟩
theorem sliftN_c {w : World} {ao : Option Addr} {l cap : Nat} :
    Calls Try.prog 17 #[.pointer none, .slice ao l cap] w fun e w' => e = .returned (.tuple #[.slice none 0 0, .int .i64 9]) ∧ w' = w := by
  have CN : Hid (∀ fv, Calls Try.prog 32 #[.pointer none, fv, .slice ao l cap] w fun e w' => e = .returned (.tuple #[.slice none 0 0, .int .i64 9]) ∧ w' = w) := fun fv => by
    go_enter Try.func32, Try.ntmps32
    go_wp2
    go_ret2
    exact ⟨rfl, rfl⟩
  go_enter Try.func17, Try.ntmps17
  go_wp2_with fail
  refine (CN.out _).mono ?_
  rintro e w1 ⟨rfl, rfl⟩
  go_wp2
  go_ret2
  exact ⟨rfl, rfl⟩
theorem ssizeN_c {w : World} : Calls Try.prog 10 #[.pointer none] w fun e w' => e = .returned (.tuple #[.int .i64 0, .int .i64 0, .int .i64 0, .int .i64 0]) ∧ w' = w := by
  go_enter Try.func10, Try.ntmps10
  go_wp2
  exact bodyPost_ret (v := .tuple #[.int .i64 0, .int .i64 0, .int .i64 0, .int .i64 0]) (by simp [results, Try.results10, go_sem]) rfl ⟨rfl, rfl⟩
theorem stightN_c {w : World} : Calls Try.prog 11 #[.pointer none] w fun e w' => e = .returned (.bool false) ∧ w' = w := by
  go_enter Try.func11, Try.ntmps11
  go_wp2
  go_ret
  exact ⟨rfl, rfl⟩
set_option maxRecDepth 100000 in
set_option maxHeartbeats 4000000 in
theorem sdualN_c {w : World} {a0 a1 a2 : Option Addr} {k0 c0 k1 c1 k2 c2 : Nat} : Calls Try.prog 18 #[.pointer none, .agg #[.slice a0 k0 c0, .slice a1 k1 c1, .slice a2 k2 c2]] w fun e w' => e = .returned (.tuple #[.agg #[.slice none 0 0, .slice none 0 0, .slice none 0 0], .int .i64 9]) ∧ Below w.heap.size w w' := by
  have hb := below_alloc (below_alloc (Below.refl w.heap.size w) (.cells #[.slice a0 k0 c0, .slice a1 k1 c1, .slice a2 k2 c2] 32)) (.cells #[.slice none 0 0, .slice none 0 0, .slice none 0 0] 32)
  have B2 : Bk ((w.alloc (.cells #[.slice a0 k0 c0, .slice a1 k1 c1, .slice a2 k2 c2] 32)).alloc (.cells #[.slice none 0 0, .slice none 0 0, .slice none 0 0] 32)) (w.heap.size + 1) [.slice none 0 0, .slice none 0 0, .slice none 0 0] 32 := by
    have := bk_new (w.alloc (.cells #[.slice a0 k0 c0, .slice a1 k1 c1, .slice a2 k2 c2] 32)) [.slice none 0 0, .slice none 0 0, .slice none 0 0] 32
    rw [size_alloc1] at this
    exact this
  go_enter Try.func18, Try.ntmps18
  go_upto_region 1 with fail
  generalize (w.alloc (.cells #[.slice a0 k0 c0, .slice a1 k1 c1, .slice a2 k2 c2] 32)).alloc (.cells #[.slice none 0 0, .slice none 0 0, .slice none 0 0] 32) = w1 at *
  have l0 := B2.cell (j := 0) rfl
  have l1 := B2.cell (j := 1) rfl
  have l2 := B2.cell (j := 2) rfl
  have ff := B2.frozen
  have HX := hid (st_new [.slice none 0 0, .slice none 0 0, .slice none 0 0] B2 (nou_list (fun u hu q => by simp at hu; subst hu; simp)) hb (Nat.le_succ _)).1
  clear hb B2
  go_wp2
  exact bodyPost_ret (v := .tuple #[.agg #[.slice none 0 0, .slice none 0 0, .slice none 0 0], .int .i64 9]) (by simp [results, Try.results18, go_sem, l0, l1, l2]) rfl ⟨rfl, HX.out⟩
set_option maxRecDepth 100000 in
set_option maxHeartbeats 4000000 in
theorem scertN_c {w : World} {a0 a1 a2 a3 : Option Addr} {k0 c0 k1 c1 k2 c2 k3 c3 : Nat} : Calls Try.prog 26 #[.pointer none, .agg #[.slice a0 k0 c0, .slice a1 k1 c1, .slice a2 k2 c2, .slice a3 k3 c3]] w fun e w' => e = .returned (.tuple #[.agg #[.slice none 0 0, .slice none 0 0, .slice none 0 0, .slice none 0 0], .int .i64 9]) ∧ Below w.heap.size w w' := by
  have hb := below_alloc (below_alloc (Below.refl w.heap.size w) (.cells #[.slice a0 k0 c0, .slice a1 k1 c1, .slice a2 k2 c2, .slice a3 k3 c3] 55)) (.cells #[.slice none 0 0, .slice none 0 0, .slice none 0 0, .slice none 0 0] 55)
  have B2 : Bk ((w.alloc (.cells #[.slice a0 k0 c0, .slice a1 k1 c1, .slice a2 k2 c2, .slice a3 k3 c3] 55)).alloc (.cells #[.slice none 0 0, .slice none 0 0, .slice none 0 0, .slice none 0 0] 55)) (w.heap.size + 1) [.slice none 0 0, .slice none 0 0, .slice none 0 0, .slice none 0 0] 55 := by
    have := bk_new (w.alloc (.cells #[.slice a0 k0 c0, .slice a1 k1 c1, .slice a2 k2 c2, .slice a3 k3 c3] 55)) [.slice none 0 0, .slice none 0 0, .slice none 0 0, .slice none 0 0] 55
    rw [size_alloc1] at this
    exact this
  go_enter Try.func26, Try.ntmps26
  go_upto_region 1 with fail
  generalize (w.alloc (.cells #[.slice a0 k0 c0, .slice a1 k1 c1, .slice a2 k2 c2, .slice a3 k3 c3] 55)).alloc (.cells #[.slice none 0 0, .slice none 0 0, .slice none 0 0, .slice none 0 0] 55) = w1 at *
  have l0 := B2.cell (j := 0) rfl
  have l1 := B2.cell (j := 1) rfl
  have l2 := B2.cell (j := 2) rfl
  have l3 := B2.cell (j := 3) rfl
  have ff := B2.frozen
  have HX := hid (st_new [.slice none 0 0, .slice none 0 0, .slice none 0 0, .slice none 0 0] B2 (nou_list (fun u hu q => by simp at hu; subst hu; simp)) hb (Nat.le_succ _)).1
  clear hb B2
  go_wp2
  exact bodyPost_ret (v := .tuple #[.agg #[.slice none 0 0, .slice none 0 0, .slice none 0 0, .slice none 0 0], .int .i64 9]) (by simp [results, Try.results26, go_sem, l0, l1, l2, l3]) rfl ⟨rfl, HX.out⟩
set_option maxRecDepth 100000 in
set_option maxHeartbeats 4000000 in
theorem sbasisN_c {w : World} {b0 b1 a0 a1 a2 : Option Addr} {l0 d0 l1 d1 k0 c0 k1 c1 k2 c2 : Nat} : Calls Try.prog 22 #[.pointer none, .agg #[.slice b0 l0 d0, .slice b1 l1 d1], .agg #[.slice a0 k0 c0, .slice a1 k1 c1, .slice a2 k2 c2]] w fun e w' => e = .returned (.tuple #[.agg #[.slice none 0 0, .slice none 0 0], .agg #[.slice none 0 0, .slice none 0 0, .slice none 0 0], .int .i64 9]) ∧ Below w.heap.size w w' := by
  have hb := (below_alloc (below_alloc (below_alloc (below_alloc (Below.refl w.heap.size w) (.cells #[.slice b0 l0 d0, .slice b1 l1 d1] 35)) (.cells #[.slice a0 k0 c0, .slice a1 k1 c1, .slice a2 k2 c2] 32)) (.cells #[.slice none 0 0, .slice none 0 0] 35)) (.cells #[.slice none 0 0, .slice none 0 0, .slice none 0 0] 32))
  have B3 : Bk ((((w.alloc (.cells #[.slice b0 l0 d0, .slice b1 l1 d1] 35)).alloc (.cells #[.slice a0 k0 c0, .slice a1 k1 c1, .slice a2 k2 c2] 32)).alloc (.cells #[.slice none 0 0, .slice none 0 0] 35)).alloc (.cells #[.slice none 0 0, .slice none 0 0, .slice none 0 0] 32)) (w.heap.size + 1 + 1) [.slice none 0 0, .slice none 0 0] 35 := by
    have := (bk_new ((w.alloc (.cells #[.slice b0 l0 d0, .slice b1 l1 d1] 35)).alloc (.cells #[.slice a0 k0 c0, .slice a1 k1 c1, .slice a2 k2 c2] 32)) [.slice none 0 0, .slice none 0 0] 35).below (below_alloc (Below.refl _ _) (.cells #[.slice none 0 0, .slice none 0 0, .slice none 0 0] 32))
    rw [size_alloc1, size_alloc1] at this
    exact this
  have B4 : Bk ((((w.alloc (.cells #[.slice b0 l0 d0, .slice b1 l1 d1] 35)).alloc (.cells #[.slice a0 k0 c0, .slice a1 k1 c1, .slice a2 k2 c2] 32)).alloc (.cells #[.slice none 0 0, .slice none 0 0] 35)).alloc (.cells #[.slice none 0 0, .slice none 0 0, .slice none 0 0] 32)) (w.heap.size + 1 + 1 + 1) [.slice none 0 0, .slice none 0 0, .slice none 0 0] 32 := by
    have := bk_new (((w.alloc (.cells #[.slice b0 l0 d0, .slice b1 l1 d1] 35)).alloc (.cells #[.slice a0 k0 c0, .slice a1 k1 c1, .slice a2 k2 c2] 32)).alloc (.cells #[.slice none 0 0, .slice none 0 0] 35)) [.slice none 0 0, .slice none 0 0, .slice none 0 0] 32
    rw [size_alloc1, size_alloc1, size_alloc1] at this
    exact this
  go_enter Try.func22, Try.ntmps22
  go_upto_region 1 with fail
  generalize (((w.alloc (.cells #[.slice b0 l0 d0, .slice b1 l1 d1] 35)).alloc (.cells #[.slice a0 k0 c0, .slice a1 k1 c1, .slice a2 k2 c2] 32)).alloc (.cells #[.slice none 0 0, .slice none 0 0] 35)).alloc (.cells #[.slice none 0 0, .slice none 0 0, .slice none 0 0] 32) = w1 at *
  have l0 := B3.cell (j := 0) rfl
  have l1 := B3.cell (j := 1) rfl
  have r0 := B4.cell (j := 0) rfl
  have r1 := B4.cell (j := 1) rfl
  have r2 := B4.cell (j := 2) rfl
  have f3 := B3.frozen
  have f4 := B4.frozen
  obtain ⟨hx1, hx2, hx3⟩ := st_new [.slice none 0 0, .slice none 0 0] B3 (nou_list (fun u hu q => by simp at hu; subst hu; simp)) hb (by omega)
  have B5 := B4.of (hx3 _ (by omega))
  have HX := hid (st_new [.slice none 0 0, .slice none 0 0, .slice none 0 0] B5 (nou_list (fun u hu q => by simp at hu; subst hu; simp)) hx1 (by omega)).1
  clear hb B3 B4 hx1 hx2 hx3 B5
  go_wp2
  exact bodyPost_ret (v := .tuple #[.agg #[.slice none 0 0, .slice none 0 0], .agg #[.slice none 0 0, .slice none 0 0, .slice none 0 0], .int .i64 9]) (by simp [results, Try.results22, go_sem, l0, l1, r0, r1, r2]) rfl ⟨rfl, HX.out⟩
end Go.Proofs.Ytllpllebmknmpaa
namespace Go.Proofs.Ytllpllebmknmpaa
open Go.RowKit

set_option maxRecDepth 100000 in
set_option maxHeartbeats 8000000 in
theorem stackNone_c {w : World} {a0 a1 a2 b0 b1 u0 u1 u2 u3 : Option Addr} {k0 c0 k1 c1 k2 c2 l0 d0 l1 d1 m0 v0 m1 v1 m2 v2 m3 v3 : Nat} {X0 X1 X2 : Nat → Nm} (hp0 : Rr w a0 k0 X0 ∧ k0 ≤ c0 ∧ c0 ≤ 9223372036854775807) (hp1 : Rr w a1 k1 X1 ∧ k1 ≤ c1 ∧ c1 ≤ 9223372036854775807) (hp2 : Rr w a2 k2 X2 ∧ k2 ≤ c2 ∧ c2 ≤ 9223372036854775807) :
    Calls Try.prog 6 #[.agg #[.slice a0 k0 c0, .slice a1 k1 c1, .slice a2 k2 c2], .agg #[.slice b0 l0 d0, .slice b1 l1 d1], .agg #[.slice u0 m0 v0, .slice u1 m1 v1, .slice u2 m2 v2, .slice u3 m3 v3]] w fun e w' => e = .returned (.bool true) ∧ Below w.heap.size w w' := by
  have C0 := hid (fun W (hW : Below w.heap.size w W) => rLights_c (w := W) (cap := c0) 10 (hp0.1.below hW) (by omega))
  have C1 := hid (fun W (hW : Below w.heap.size w W) => rLights_c (w := W) (cap := c1) 10 (hp1.1.below hW) (by omega))
  have C2 := hid (fun W (hW : Below w.heap.size w W) => rLights_c (w := W) (cap := c2) 10 (hp2.1.below hW) (by omega))
  obtain ⟨q0, hq0⟩ : ∃ q, (decide (k0 ≤ 300) && nlg 10 X0 k0 0) = q := ⟨_, rfl⟩
  rw [hq0] at C0
  clear hq0
  obtain ⟨q1, hq1⟩ : ∃ q, (decide (k1 ≤ 300) && nlg 10 X1 k1 0) = q := ⟨_, rfl⟩
  rw [hq1] at C1
  clear hq1
  obtain ⟨q2, hq2⟩ : ∃ q, (decide (k2 ≤ 300) && nlg 10 X2 k2 0) = q := ⟨_, rfl⟩
  rw [hq2] at C2
  clear hq2
  clear hp0 hp1 hp2
  have hb := (below_alloc (below_alloc (below_alloc (Below.refl w.heap.size w) (.cells #[.slice a0 k0 c0, .slice a1 k1 c1, .slice a2 k2 c2] 32)) (.cells #[.slice b0 l0 d0, .slice b1 l1 d1] 35)) (.cells #[.slice u0 m0 v0, .slice u1 m1 v1, .slice u2 m2 v2, .slice u3 m3 v3] 55))
  have B1 : Bk (((w.alloc (.cells #[.slice a0 k0 c0, .slice a1 k1 c1, .slice a2 k2 c2] 32)).alloc (.cells #[.slice b0 l0 d0, .slice b1 l1 d1] 35)).alloc (.cells #[.slice u0 m0 v0, .slice u1 m1 v1, .slice u2 m2 v2, .slice u3 m3 v3] 55)) w.heap.size [.slice a0 k0 c0, .slice a1 k1 c1, .slice a2 k2 c2] 32 := ((bk_new w [.slice a0 k0 c0, .slice a1 k1 c1, .slice a2 k2 c2] 32).below (below_alloc (Below.refl _ _) (.cells #[.slice b0 l0 d0, .slice b1 l1 d1] 35))).below (below_alloc (Below.refl _ _) (.cells #[.slice u0 m0 v0, .slice u1 m1 v1, .slice u2 m2 v2, .slice u3 m3 v3] 55))
  have B2 : Bk (((w.alloc (.cells #[.slice a0 k0 c0, .slice a1 k1 c1, .slice a2 k2 c2] 32)).alloc (.cells #[.slice b0 l0 d0, .slice b1 l1 d1] 35)).alloc (.cells #[.slice u0 m0 v0, .slice u1 m1 v1, .slice u2 m2 v2, .slice u3 m3 v3] 55)) (w.heap.size + 1) [.slice b0 l0 d0, .slice b1 l1 d1] 35 := by
    have := (bk_new (w.alloc (.cells #[.slice a0 k0 c0, .slice a1 k1 c1, .slice a2 k2 c2] 32)) [.slice b0 l0 d0, .slice b1 l1 d1] 35).below (below_alloc (Below.refl _ _) (.cells #[.slice u0 m0 v0, .slice u1 m1 v1, .slice u2 m2 v2, .slice u3 m3 v3] 55))
    rw [size_alloc1] at this
    exact this
  have B3 : Bk (((w.alloc (.cells #[.slice a0 k0 c0, .slice a1 k1 c1, .slice a2 k2 c2] 32)).alloc (.cells #[.slice b0 l0 d0, .slice b1 l1 d1] 35)).alloc (.cells #[.slice u0 m0 v0, .slice u1 m1 v1, .slice u2 m2 v2, .slice u3 m3 v3] 55)) (w.heap.size + 1 + 1) [.slice u0 m0 v0, .slice u1 m1 v1, .slice u2 m2 v2, .slice u3 m3 v3] 55 := by
    have := bk_new ((w.alloc (.cells #[.slice a0 k0 c0, .slice a1 k1 c1, .slice a2 k2 c2] 32)).alloc (.cells #[.slice b0 l0 d0, .slice b1 l1 d1] 35)) [.slice u0 m0 v0, .slice u1 m1 v1, .slice u2 m2 v2, .slice u3 m3 v3] 55
    rw [size_alloc1, size_alloc1] at this
    exact this
  have HB := hid hb; have H1 := hid B1; have H2 := hid B2; have H3 := hid B3
  clear hb B1 B2 B3
  go_enter Try.func6, Try.ntmps6
  go_wp2_with fail
  generalize ((w.alloc (.cells #[.slice a0 k0 c0, .slice a1 k1 c1, .slice a2 k2 c2] 32)).alloc (.cells #[.slice b0 l0 d0, .slice b1 l1 d1] 35)).alloc (.cells #[.slice u0 m0 v0, .slice u1 m1 v1, .slice u2 m2 v2, .slice u3 m3 v3] 55) = w1 at *
  refine (awake17_c _).mono ?_
  rintro e w2 ⟨rfl, hb2⟩
  replace HB := hid (HB.out.trans (hb2.mono HB.out.size)); replace H1 := hid (H1.out.below hb2); replace H2 := hid (H2.out.below hb2); replace H3 := hid (H3.out.below hb2)
  clear hb2
  have r0 := H1.out.cell (j := 0) rfl
  go_wp2_with fail
  refine (C0.out _ HB.out).mono ?_
  rintro e w3 ⟨rfl, hb3⟩
  replace HB := hid (HB.out.trans (hb3.mono HB.out.size)); replace H1 := hid (H1.out.below hb3); replace H2 := hid (H2.out.below hb3); replace H3 := hid (H3.out.below hb3)
  clear hb3 r0
  cases q0
  · go_wp2
    go_ret
    exact ⟨rfl, HB.out⟩
  have r1 := H1.out.cell (j := 1) rfl
  go_wp2_with fail
  refine (C1.out _ HB.out).mono ?_
  rintro e w4 ⟨rfl, hb4⟩
  replace HB := hid (HB.out.trans (hb4.mono HB.out.size)); replace H1 := hid (H1.out.below hb4); replace H2 := hid (H2.out.below hb4); replace H3 := hid (H3.out.below hb4)
  clear hb4 r1
  cases q1
  · go_wp2
    go_ret
    exact ⟨rfl, HB.out⟩
  have r2 := H1.out.cell (j := 2) rfl
  go_wp2_with fail
  refine (C2.out _ HB.out).mono ?_
  rintro e w5 ⟨rfl, hb5⟩
  replace HB := hid (HB.out.trans (hb5.mono HB.out.size)); replace H1 := hid (H1.out.below hb5); replace H2 := hid (H2.out.below hb5); replace H3 := hid (H3.out.below hb5)
  clear hb5 r2
  cases q2
  · go_wp2
    go_ret
    exact ⟨rfl, HB.out⟩
  have r0 := H1.out.cell (j := 0) rfl
  go_wp2_with fail
  refine sprimalN_c.mono ?_
  rintro e w6 ⟨rfl, rfl⟩
  go_wp2_with fail
  refine sliftN_c.mono ?_
  rintro e w7 ⟨rfl, rfl⟩
  have r1 := H1.out.cell (j := 1) rfl
  have r2 := H1.out.cell (j := 2) rfl
  go_wp2_with fail
  refine sdualN_c.mono ?_
  rintro e w8 ⟨rfl, hb8⟩
  replace HB := hid (HB.out.trans (hb8.mono HB.out.size)); replace H1 := hid (H1.out.below hb8); replace H2 := hid (H2.out.below hb8); replace H3 := hid (H3.out.below hb8)
  clear r0 r1 r2 hb8
  have hn := below_alloc (Below.refl w8.heap.size w8) (.cells #[.slice none 0 0, .slice none 0 0, .slice none 0 0] 32)
  have D1 := hid (show Bk (w8.alloc (.cells #[.slice none 0 0, .slice none 0 0, .slice none 0 0] 32)) w8.heap.size [.slice none 0 0, .slice none 0 0, .slice none 0 0] 32 from bk_new w8 [.slice none 0 0, .slice none 0 0, .slice none 0 0] 32)
  replace HB := hid (HB.out.trans (hn.mono HB.out.size)); replace H1 := hid (H1.out.below hn); replace H2 := hid (H2.out.below hn); replace H3 := hid (H3.out.below hn)
  clear hn
  have r0 := H1.out.cell (j := 0) rfl
  have r1 := H1.out.cell (j := 1) rfl
  have r2 := H1.out.cell (j := 2) rfl
  have t0 := H2.out.cell (j := 0) rfl
  have t1 := H2.out.cell (j := 1) rfl
  go_wp2_with fail
  generalize hg : w8.alloc (.cells #[.slice none 0 0, .slice none 0 0, .slice none 0 0] 32) = w9 at *
  obtain ⟨p1, hp1⟩ : ∃ z, w8.heap.size = z := ⟨_, rfl⟩
  rw [hp1] at D1 ⊢
  clear hg hp1
  refine sbasisN_c.mono ?_
  rintro e w10 ⟨rfl, hb10⟩
  replace HB := hid (HB.out.trans (hb10.mono HB.out.size)); replace H1 := hid (H1.out.below hb10); replace H2 := hid (H2.out.below hb10); replace H3 := hid (H3.out.below hb10); replace D1 := hid (D1.out.below hb10)
  clear hb10 r0 r1 r2 t0 t1
  obtain ⟨p2, hp2⟩ : ∃ z, w10.heap.size = z := ⟨_, rfl⟩
  have hn := below_alloc (below_alloc (Below.refl w10.heap.size w10) (.cells #[.slice none 0 0, .slice none 0 0] 35)) (.cells #[.slice none 0 0, .slice none 0 0, .slice none 0 0] 32)
  have D2 := hid (show Bk ((w10.alloc (.cells #[.slice none 0 0, .slice none 0 0] 35)).alloc (.cells #[.slice none 0 0, .slice none 0 0, .slice none 0 0] 32)) p2 [.slice none 0 0, .slice none 0 0] 35 from hp2 ▸ (bk_new w10 [.slice none 0 0, .slice none 0 0] 35).below (below_alloc (Below.refl _ _) (.cells #[.slice none 0 0, .slice none 0 0, .slice none 0 0] 32)))
  have D3 := hid (show Bk ((w10.alloc (.cells #[.slice none 0 0, .slice none 0 0] 35)).alloc (.cells #[.slice none 0 0, .slice none 0 0, .slice none 0 0] 32)) (p2 + 1) [.slice none 0 0, .slice none 0 0, .slice none 0 0] 32 from by
    have := bk_new (w10.alloc (.cells #[.slice none 0 0, .slice none 0 0] 35)) [.slice none 0 0, .slice none 0 0, .slice none 0 0] 32
    rw [size_alloc1, hp2] at this
    exact this)
  replace HB := hid (HB.out.trans (hn.mono HB.out.size)); replace H1 := hid (H1.out.below hn); replace H2 := hid (H2.out.below hn); replace H3 := hid (H3.out.below hn); replace D1 := hid (D1.out.below hn)
  clear hn
  have t0 := H3.out.cell (j := 0) rfl
  have t1 := H3.out.cell (j := 1) rfl
  have t2 := H3.out.cell (j := 2) rfl
  have t3 := H3.out.cell (j := 3) rfl
  go_wp2_with fail
  simp only [hp2] at *
  generalize (w10.alloc (.cells #[.slice none 0 0, .slice none 0 0] 35)).alloc (.cells #[.slice none 0 0, .slice none 0 0, .slice none 0 0] 32) = w11 at *
  clear hp2
  refine scertN_c.mono ?_
  rintro e w12 ⟨rfl, hb12⟩
  replace HB := hid (HB.out.trans (hb12.mono HB.out.size)); replace D1 := hid (D1.out.below hb12); replace D2 := hid (D2.out.below hb12); replace D3 := hid (D3.out.below hb12)
  clear hb12 t0 t1 t2 t3 H1 H2 H3
  have hn := below_alloc (Below.refl w12.heap.size w12) (.cells #[.slice none 0 0, .slice none 0 0, .slice none 0 0, .slice none 0 0] 55)
  obtain ⟨p4, hp4⟩ : ∃ z, w12.heap.size = z := ⟨_, rfl⟩
  have D4 := hid (show Bk (w12.alloc (.cells #[.slice none 0 0, .slice none 0 0, .slice none 0 0, .slice none 0 0] 55)) p4 [.slice none 0 0, .slice none 0 0, .slice none 0 0, .slice none 0 0] 55 from hp4 ▸ bk_new w12 [.slice none 0 0, .slice none 0 0, .slice none 0 0, .slice none 0 0] 55)
  replace HB := hid (HB.out.trans (hn.mono HB.out.size)); replace D1 := hid (D1.out.below hn); replace D2 := hid (D2.out.below hn); replace D3 := hid (D3.out.below hn)
  clear hn
  go_wp2_with fail
  simp only [hp4] at *
  generalize w12.alloc (.cells #[.slice none 0 0, .slice none 0 0, .slice none 0 0, .slice none 0 0] 55) = w13 at *
  clear hp4
  refine ssizeN_c.mono ?_
  rintro e w14 ⟨rfl, rfl⟩
  have t0 := D1.out.cell (j := 0) rfl
  have t1 := D1.out.cell (j := 1) rfl
  have t2 := D1.out.cell (j := 2) rfl
  go_wp2_with fail
  refine (samePt_c (rf_nil 0 _ _) (rf_nil 0 _ _) rfl (by decide) (rf_nil 0 _ _) (rf_nil 0 _ _) rfl (by decide) (rf_nil 0 _ _) (rf_nil 0 _ _) rfl (by decide) (by decide) (by decide)).mono ?_
  rintro e w15 ⟨rfl, hb15⟩
  replace HB := hid (HB.out.trans (hb15.mono HB.out.size)); replace D1 := hid (D1.out.below hb15); replace D2 := hid (D2.out.below hb15); replace D3 := hid (D3.out.below hb15); replace D4 := hid (D4.out.below hb15)
  clear hb15 t0 t1 t2
  have t0 := D3.out.cell (j := 0) rfl
  have t1 := D3.out.cell (j := 1) rfl
  have t2 := D3.out.cell (j := 2) rfl
  go_wp2_with fail
  refine (samePt_c (rf_nil 0 _ _) (rf_nil 0 _ _) rfl (by decide) (rf_nil 0 _ _) (rf_nil 0 _ _) rfl (by decide) (rf_nil 0 _ _) (rf_nil 0 _ _) rfl (by decide) (by decide) (by decide)).mono ?_
  rintro e w16 ⟨rfl, hb16⟩
  replace HB := hid (HB.out.trans (hb16.mono HB.out.size)); replace D1 := hid (D1.out.below hb16); replace D2 := hid (D2.out.below hb16); replace D3 := hid (D3.out.below hb16); replace D4 := hid (D4.out.below hb16)
  clear hb16 t0 t1 t2
  have t0 := D2.out.cell (j := 0) rfl
  have t1 := D2.out.cell (j := 1) rfl
  go_wp2_with fail
  refine (sameBs_c (E0 := fun _ => 0) (E1 := fun _ => 0) (el_nil _ _ _) (el_nil _ _ _) (by decide) (el_nil _ _ _) (el_nil _ _ _) (by decide)).mono ?_
  rintro e w17 ⟨rfl, hb17⟩
  replace HB := hid (HB.out.trans (hb17.mono HB.out.size)); replace D1 := hid (D1.out.below hb17); replace D2 := hid (D2.out.below hb17); replace D3 := hid (D3.out.below hb17); replace D4 := hid (D4.out.below hb17)
  clear hb17 t0 t1
  have t0 := D4.out.cell (j := 0) rfl
  have t1 := D4.out.cell (j := 1) rfl
  have t2 := D4.out.cell (j := 2) rfl
  have t3 := D4.out.cell (j := 3) rfl
  go_wp2_with fail
  refine (sameCt_c (rf_nil 0 _ _) (rf_nil 0 _ _) rfl (by decide) (rf_nil 0 _ _) (rf_nil 0 _ _) rfl (by decide) (rf_nil 0 _ _) (rf_nil 0 _ _) rfl (by decide) (rf_nil 0 _ _) (rf_nil 0 _ _) rfl (by decide) (by decide) (by decide)).mono ?_
  rintro e w18 ⟨rfl, hb18⟩
  replace HB := hid (HB.out.trans (hb18.mono HB.out.size)); replace D1 := hid (D1.out.below hb18); replace D2 := hid (D2.out.below hb18); replace D3 := hid (D3.out.below hb18); replace D4 := hid (D4.out.below hb18)
  clear hb18 t0 t1 t2 t3
  go_wp2_with fail
  refine stightN_c.mono ?_
  rintro e w20 ⟨rfl, rfl⟩
  go_wp2
  go_ret
  exact ⟨rfl, HB.out⟩
theorem stackNone_x {a0 a1 a2 b0 b1 u0 u1 u2 u3 : Option Addr} {k0 c0 k1 c1 k2 c2 l0 d0 l1 d1 m0 v0 m1 v1 m2 v2 m3 v3 : Nat} {X0 X1 X2 U0 U1 U2 U3 : Nat → Nm} {E0 E1 : Nat → Int} (w : World) (hp0 : Rr w a0 k0 X0 ∧ k0 ≤ c0 ∧ c0 ≤ 9223372036854775807) (hp1 : Rr w a1 k1 X1 ∧ k1 ≤ c1 ∧ c1 ≤ 9223372036854775807) (hp2 : Rr w a2 k2 X2 ∧ k2 ≤ c2 ∧ c2 ≤ 9223372036854775807)
    (_ : El w b0 l0 E0 ∧ (b0 = none → l0 = 0 ∧ d0 = 0) ∧ l0 ≤ d0 ∧ d0 ≤ 9223372036854775807) (_ : El w b1 l1 E1 ∧ (b1 = none → l1 = 0 ∧ d1 = 0) ∧ l1 ≤ d1 ∧ d1 ≤ 9223372036854775807) (_ : Rr w u0 m0 U0 ∧ m0 ≤ v0 ∧ v0 ≤ 9223372036854775807) (_ : Rr w u1 m1 U1 ∧ m1 ≤ v1 ∧ v1 ≤ 9223372036854775807) (_ : Rr w u2 m2 U2 ∧ m2 ≤ v2 ∧ v2 ≤ 9223372036854775807) (_ : Rr w u3 m3 U3 ∧ m3 ≤ v3 ∧ v3 ≤ 9223372036854775807) :
    Calls Try.prog 6 #[.agg #[.slice a0 k0 c0, .slice a1 k1 c1, .slice a2 k2 c2], .agg #[.slice b0 l0 d0, .slice b1 l1 d1], .agg #[.slice u0 m0 v0, .slice u1 m1 v1, .slice u2 m2 v2, .slice u3 m3 v3]] w fun e w' => e = .returned (.bool true) ∧ Below w.heap.size w w' := stackNone_c hp0 hp1 hp2
end Go.Proofs.Ytllpllebmknmpaa

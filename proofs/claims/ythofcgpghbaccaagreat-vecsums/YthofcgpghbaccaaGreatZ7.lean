/-
  The statements' looks at how long the numbers of lists are (light, Lights). What the rows of this seat share: how arguments that are rational numbers, lists of numbers and lists of terms are opened. The seat's rows list no tables. Rows of structs that a call makes by append, none of whose cells is a limb: what stays when they are written. No Go text is named here. The walk of package vec's putter (gather's own function). Lists of terms in form, as values; the walk of package vec's merge. The walks of package vec's gather and of the call Plus, on lists in form. Lists of terms in form have values; the walk of package vec's call Plus, whatever it is handed.
-/
import Derived.Test.YthofcgpghbaccaaGreatZ6
import Derived.Test.YthofcgpghbaccaaGreatRows
import Derived.Test.YthofcgpghbaccaaGreatChecked
import Derived.ProofKit
import Derived.OpenShut
import Derived.ChangeSame
import Derived.Deep.Slices
import Derived.Deep.DeepHandedRow
import Derived.BigQuiet
import Derived.Deep.RegionHeld3
namespace Go.Proofs.YthofcgpghbaccaaGreat
open Go.RowKit

theorem rLightK_c (K : Nat) (s : Bool) (x y : Option Addr) (n c m d : Nat) (w : World) :
    Calls Tryz.prog 10 #[.agg #[.bool s, .slice x n c, .slice y m d], .int .i64 K] w fun e w' => e = .returned (.bool (lg n m K)) ∧ Below w.heap.size w w' := by
  by_cases h1 : n ≤ K
  · have d1 : decide ((n : Int) ≤ (K : Int)) = true := by simp; omega
    by_cases h2 : m ≤ K
    · have d2 : decide ((m : Int) ≤ (K : Int)) = true := by simp; omega
      rw [show lg n m K = true by simp [lg, h1, h2]]
      go_enter Tryz.func10, Tryz.ntmps10
      go_wp2
      go_ret
      exact ⟨rfl, below_alloc (Below.refl _ _) _⟩
    · have d2 : decide ((m : Int) ≤ (K : Int)) = false := by simp; omega
      rw [show lg n m K = false by simp [lg, h2]]
      go_enter Tryz.func10, Tryz.ntmps10
      go_wp2
      go_ret
      exact ⟨rfl, below_alloc (Below.refl _ _) _⟩
  · have d1 : decide ((n : Int) ≤ (K : Int)) = false := by simp; omega
    rw [show lg n m K = false by simp [lg, h1]]
    go_enter Tryz.func10, Tryz.ntmps10
    go_wp2
    go_ret
    exact ⟨rfl, below_alloc (Below.refl _ _) _⟩

/-- A list of k terms, of k numbers, that can be read, whatever they are and however long. -/
def Tr (w : World) (ao : Option Addr) (k : Nat) (col : Nat → Int) (T : Nat → Nm) : Prop :=
  ∀ j, j < k → ∃ b o, ao = some ⟨b, o, none⟩ ∧ C4 w b (o + j * 4) (.int .i64 (col j)) (.bool (T j).s) (.slice (T j).x (T j).n (T j).c) (.slice (T j).y (T j).m (T j).d) ∧ Rw w (T j).x (T j).n (T j).c (T j).f (T j).y (T j).m (T j).d (T j).g
def Rr (w : World) (ao : Option Addr) (k : Nat) (X : Nat → Nm) : Prop :=
  ∀ j, j < k → ∃ b o, ao = some ⟨b, o, none⟩ ∧ C3 w b (o + j * 3) (.bool (X j).s) (.slice (X j).x (X j).n (X j).c) (.slice (X j).y (X j).m (X j).d) ∧ Rw w (X j).x (X j).n (X j).c (X j).f (X j).y (X j).m (X j).d (X j).g
theorem Tr.below {w w' ao k col T} (h : Tr w ao k col T) (hb : Below w.heap.size w w') : Tr w' ao k col T := fun j hj => by
  obtain ⟨b, o, e, h1, h2⟩ := h j hj
  exact ⟨b, o, e, h1.below hb, h2.below hb⟩
theorem Rr.below {w w' ao k X} (h : Rr w ao k X) (hb : Below w.heap.size w w') : Rr w' ao k X := fun j hj => by
  obtain ⟨b, o, e, h1, h2⟩ := h j hj
  exact ⟨b, o, e, h1.below hb, h2.below hb⟩
/-- All numbers from number i on have at most K limbs. -/
def nlg (K : Nat) (X : Nat → Nm) : Nat → Nat → Bool
  | 0, _ => true
  | r + 1, i => lg (X i).n (X i).m K && nlg K X r (i + 1)
theorem nlg_all {K : Nat} {X : Nat → Nm} : ∀ {r i : Nat}, nlg K X r i = true → ∀ j, i ≤ j → j < i + r → (X j).n ≤ K ∧ (X j).m ≤ K := by
  intro r
  induction r with
  | zero => intro i _ j h1 h2; omega
  | succ r ih =>
    intro i h j hj hj2
    simp only [nlg, lg, Bool.and_eq_true, decide_eq_true_eq] at h
    by_cases e : j = i
    · subst e; exact h.1
    · exact ih h.2 j (by omega) (by omega)
theorem Tr.tl {w ao k col T} {K : Nat} (h : Tr w ao k col T) (hl : nlg K T k 0 = true) (hK : K ≤ 65536) : Tl w ao k col T := fun j hj => by
  obtain ⟨b, o, e, h1, h2⟩ := h j hj
  obtain ⟨h3, h4⟩ := nlg_all hl j (by omega) (by omega)
  exact ⟨b, o, e, h1, h2, by omega, by omega⟩
theorem Rr.rl {w ao k X} {K : Nat} (h : Rr w ao k X) (hl : nlg K X k 0 = true) (hK : K ≤ 65536) : Rl w ao k X := fun j hj => by
  obtain ⟨b, o, e, h1, h2⟩ := h j hj
  obtain ⟨h3, h4⟩ := nlg_all hl j (by omega) (by omega)
  exact ⟨b, o, e, h1, h2, by omega, by omega⟩

set_option maxRecDepth 100000 in
set_option maxHeartbeats 4000000 in
theorem rLights_c {w : World} {ao : Option Addr} {k cap : Nat} {X : Nat → Nm} (K : Nat) (h : Rr w ao k X) (hk : k ≤ 9223372036854775807) :
    Calls Tryz.prog 26 #[.slice ao k cap, .int .i64 K] w fun e w' => e = .returned (.bool (decide (k ≤ 300) && nlg K X k 0)) ∧ Below w.heap.size w w' := by
  have H := hid h
  clear h
  by_cases h300 : k ≤ 300
  · have i0 : ¬ ((300 : Int) < ((k : Nat) : Int)) := by omega
    rw [show (decide (k ≤ 300) && nlg K X k 0) = nlg K X k 0 by simp [h300]]
    go_enter Tryz.func26, Tryz.ntmps26
    go_wp2_with fail
    go_loopw [12] (fun t wr => ∃ (i : Nat), i ≤ k ∧ t = .int .i64 i ∧ Hid (Below w.heap.size w wr) ∧ Hid (nlg K X k 0 = nlg K X (k - i) i)) (fun t _ => k - (intOf t).toNat)
    case atStart => exact ⟨0, by omega, rfl, Below.refl _ _, rfl⟩
    case round =>
      obtain ⟨i, hi, rfl, HB, HT⟩ := hrel
      by_cases hlt : i < k
      · obtain ⟨b, o, rfl, hc, hn⟩ := (H.out.below HB.out) i hlt
        obtain ⟨r, hr⟩ : ∃ r, k - i = r + 1 := ⟨k - i - 1, by omega⟩
        have hT : nlg K X k 0 = (lg (X i).n (X i).m K && nlg K X r (i + 1)) := by rw [HT.out, hr]; rfl
        have hr2 : k - (i + 1) = r := by omega
        obtain ⟨⟨s, x, n, c, f, y, m, d, g⟩, hTi⟩ : ∃ t, X i = t := ⟨_, rfl⟩
        rw [hTi] at hc hn hT
        obtain ⟨x0, x1, x2⟩ := hc
        replace x0 : wr.cell? ⟨b, o + i * 3, none⟩ = some (.bool s) := x0
        replace x1 : wr.cell? ⟨b, o + i * 3 + 1, none⟩ = some (.slice x n c) := x1
        replace x2 : wr.cell? ⟨b, o + i * 3 + 2, none⟩ = some (.slice y m d) := x2
        have HTi := hid hT; have HR2 := hid hr2
        have i1 : ((i : Nat) : Int) < ((k : Nat) : Int) := by omega
        clear hT hr2 hTi hr hn
        go_wp2_with fail
        refine (rLightK_c K s x y n c m d _).mono ?_
        rintro e w1 ⟨rfl, hb1⟩
        obtain ⟨_, _, _, _, hb2⟩ := box3 hb1
        have HB2 := hid (HB.out.trans (hb2.mono HB.out.size))
        clear hb1 hb2
        cases hf : lg n m K
        · have HF := hid hf
          clear hf
          go_wp2
          go_ret
          refine ⟨?_, HB2.out⟩
          rw [HTi.out]
          show _ = Ending.returned (.bool (lg n m K && _))
          rw [HF.out]; rfl
        · have HF := hid hf
          clear hf
          go_wp2
          go_roundw
          case rel =>
            refine ⟨i + 1, by omega, by go_num, HB2.out, ?_⟩
            show _ = _
            rw [HTi.out, HR2.out]
            show (lg n m K && _) = _
            rw [HF.out]; rfl
          case measure => simp [intOf]; omega
      · have e1 : i = k := by omega
        have HTe : Hid (nlg K X k 0 = true) := by
          show _ = _
          rw [HT.out, e1, Nat.sub_self]; rfl
        have i2 : ¬ (((i : Nat) : Int) < ((k : Nat) : Int)) := by omega
        clear e1 HT
        go_wp2
        go_ret
        refine ⟨?_, HB.out⟩
        rw [HTe.out]; rfl
  · have i0 : (300 : Int) < ((k : Nat) : Int) := by omega
    rw [show (decide (k ≤ 300) && nlg K X k 0) = false by simp [h300]]
    go_enter Tryz.func26, Tryz.ntmps26
    go_wp2
    go_ret
    exact ⟨rfl, Below.refl _ _⟩

set_option maxRecDepth 100000 in
set_option maxHeartbeats 4000000 in
theorem vLight_c {w : World} {ao : Option Addr} {k cap : Nat} {col : Nat → Int} {X : Nat → Nm} (h : Tr w ao k col X) (hk : k ≤ 9223372036854775807) :
    Calls Tryz.prog 9 #[.slice ao k cap] w fun e w' => e = .returned (.bool (decide (k ≤ 200) && nlg 10 X k 0)) ∧ Below w.heap.size w w' := by
  have H := hid h
  clear h
  by_cases h200 : k ≤ 200
  · have i0 : ¬ ((200 : Int) < ((k : Nat) : Int)) := by omega
    rw [show (decide (k ≤ 200) && nlg 10 X k 0) = nlg 10 X k 0 by simp [h200]]
    go_enter Tryz.func9, Tryz.ntmps9
    go_wp2_with fail
    go_loopw [10] (fun t wr => ∃ (i : Nat), i ≤ k ∧ t = .int .i64 i ∧ Hid (Below w.heap.size w wr) ∧ Hid (nlg 10 X k 0 = nlg 10 X (k - i) i)) (fun t _ => k - (intOf t).toNat)
    case atStart => exact ⟨0, by omega, rfl, Below.refl _ _, rfl⟩
    case round =>
      obtain ⟨i, hi, rfl, HB, HT⟩ := hrel
      by_cases hlt : i < k
      · obtain ⟨b, o, rfl, hc, hn⟩ := (H.out.below HB.out) i hlt
        obtain ⟨r, hr⟩ : ∃ r, k - i = r + 1 := ⟨k - i - 1, by omega⟩
        have hT : nlg 10 X k 0 = (lg (X i).n (X i).m 10 && nlg 10 X r (i + 1)) := by rw [HT.out, hr]; rfl
        have hr2 : k - (i + 1) = r := by omega
        obtain ⟨⟨s, x, n, c, f, y, m, d, g⟩, hTi⟩ : ∃ t, X i = t := ⟨_, rfl⟩
        rw [hTi] at hc hn hT
        obtain ⟨z, hz⟩ : ∃ z, col i = z := ⟨_, rfl⟩
        rw [hz] at hc
        obtain ⟨x0, x1, x2, x3⟩ := hc
        replace x0 : wr.cell? ⟨b, o + i * 4, none⟩ = some (.int .i64 z) := x0
        replace x1 : wr.cell? ⟨b, o + i * 4 + 1, none⟩ = some (.bool s) := x1
        replace x2 : wr.cell? ⟨b, o + i * 4 + 2, none⟩ = some (.slice x n c) := x2
        replace x3 : wr.cell? ⟨b, o + i * 4 + 3, none⟩ = some (.slice y m d) := x3
        have HTi := hid hT; have HR2 := hid hr2
        have i1 : ((i : Nat) : Int) < ((k : Nat) : Int) := by omega
        clear hT hr2 hTi hr hn hz
        go_wp2_with fail
        refine (rLightK_c 10 s x y n c m d _).mono ?_
        rintro e w1 ⟨rfl, hb1⟩
        obtain ⟨_, _, _, _, _, hb2⟩ := box4 hb1
        have HB2 := hid (HB.out.trans (hb2.mono HB.out.size))
        clear hb1 hb2
        cases hf : lg n m 10
        · have HF := hid hf
          clear hf
          go_wp2
          go_ret
          refine ⟨?_, HB2.out⟩
          rw [HTi.out]
          show _ = Ending.returned (.bool (lg n m 10 && _))
          rw [HF.out]; rfl
        · have HF := hid hf
          clear hf
          go_wp2
          go_roundw
          case rel =>
            refine ⟨i + 1, by omega, by go_num, HB2.out, ?_⟩
            show _ = _
            rw [HTi.out, HR2.out]
            show (lg n m 10 && _) = _
            rw [HF.out]; rfl
          case measure => simp [intOf]; omega
      · have e1 : i = k := by omega
        have HTe : Hid (nlg 10 X k 0 = true) := by
          show _ = _
          rw [HT.out, e1, Nat.sub_self]; rfl
        have i2 : ¬ (((i : Nat) : Int) < ((k : Nat) : Int)) := by omega
        clear e1 HT
        go_wp2
        go_ret
        refine ⟨?_, HB.out⟩
        rw [HTe.out]; rfl
  · have i0 : (200 : Int) < ((k : Nat) : Int) := by omega
    rw [show (decide (k ≤ 200) && nlg 10 X k 0) = false by simp [h200]]
    go_enter Tryz.func9, Tryz.ntmps9
    go_wp2
    go_ret
    exact ⟨rfl, Below.refl _ _⟩
end Go.Proofs.YthofcgpghbaccaaGreat
namespace Go.Proofs.YthofcgpghbaccaaGreat
open Go.ChangeShapes Go.WideShapes Go.ChangeAt Go.RowKit

theorem Tryz.own : ownKnob Tryz.prog.godebug = none := by kernel_rfl
theorem Tryz.laidOut : laidOutB Tryz.prog = true := by kernel_rfl
theorem Tryz.cellsU64 : Tryz.prog.cellsOf 74 = 1 := by kernel_rfl
theorem Tryz.readR : Tryz.prog.readableRec 25 = true := by kernel_rfl
theorem Tryz.sizeR : 25 < Tryz.prog.types.size := of_decide_eq_true (by kernel_rfl)
theorem Tryz.cellsR : Tryz.prog.cellsOf 25 = 3 := by kernel_rfl
theorem Tryz.readRs : Tryz.prog.readableRec 45 = true := by kernel_rfl
theorem Tryz.sizeRs : 45 < Tryz.prog.types.size := of_decide_eq_true (by kernel_rfl)
theorem Tryz.cellsT : Tryz.prog.cellsOf 69 = 4 := by kernel_rfl
theorem Tryz.readTs : Tryz.prog.readableRec 22 = true := by kernel_rfl
theorem Tryz.sizeTs : 22 < Tryz.prog.types.size := of_decide_eq_true (by kernel_rfl)

set_option maxRecDepth 100000 in
/-- A list of limbs inside an argument. -/
theorem viewL {H : Type} {enc : TypeId × Value → H} {W : World} {fuel : Nat} {v : Value} {x : DataW H × List MemPlace} (h : DataW.trod enc Tryz.prog W 0 (fun _ => true) true fuel 23 [v] = some x) :
    ∃ ao n cap f, v = .slice ao n cap ∧ Rd .u64 W ao n f ∧ Lm f n ∧ (ao = none → n = 0 ∧ cap = 0) ∧ n ≤ cap ∧ cap ≤ 9223372036854775807 := by
  rcases open_ints Tryz.underlying23 Tryz.underlying74 Tryz.cellsU64 h with ⟨hcs, hx⟩ | ⟨a, len', cap', zs, hcs, _, hl, hm, hz, hx, hcell, hwz⟩
  · simp at hcs
    subst hcs
    exact ⟨none, 0, 0, fun _ => 0, rfl, Rd.zero, fun j hj => by omega, fun _ => ⟨rfl, rfl⟩, by omega, by omega⟩
  · simp at hcs
    subst hcs
    simp only [if_true] at hz
    refine ⟨some a, len', cap', fun j => zs.getD j 0, rfl, fun j hj => ?_, fun j hj => ?_, (fun h => by cases h), hl, by unfold maxLen at hm; omega⟩
    · obtain ⟨b, off, spot⟩ := a
      have hspot : spot = none := by simpa [Addr.add] using World.cell?_spot (hcell 0 (by omega))
      subst hspot
      exact ⟨b, off, rfl, by have := hcell j (by omega); rwa [addr_add] at this⟩
    · have hmem : zs.getD j 0 ∈ zs := by
        rw [List.getD_eq_getElem?_getD, List.getElem?_eq_getElem (by omega)]
        exact List.getElem_mem _
      have := bounds_u64 (hwz _ hmem)
      show 0 ≤ zs.getD j 0 ∧ zs.getD j 0 < 18446744073709551616
      omega
/-- A struct of three fields, of two: each is read by itself. -/
theorem fields3 {H : Type} {enc : TypeId × Value → H} {P : Program} {w : World} {base : Nat} {spare : Nat → Bool} {held : Bool} {t : TypeId} {f0 f1 f2 : Field} {fuel : Nat} {cs : List Value} {x : DataW H × List MemPlace} (ht : P.underlying t = some (.struct #[f0, f1, f2])) (h : DataW.trod enc P w base spare held fuel t cs = some x) :
    ∃ y0 y1 y2 k, DataW.trod enc P w base spare held k f0.type ((cs.drop f0.offset).take (P.cellsOf f0.type)) = some y0 ∧ DataW.trod enc P w base spare held k f1.type ((cs.drop f1.offset).take (P.cellsOf f1.type)) = some y1 ∧ DataW.trod enc P w base spare held k f2.type ((cs.drop f2.offset).take (P.cellsOf f2.type)) = some y2 := by
  obtain ⟨ys, k, _, rfl, _, hlen, hf⟩ := DataW.trod_struct ht h
  match ys, hlen with
  | [y0, y1, y2], _ => exact ⟨y0, y1, y2, k, by simpa using hf 0 f0 rfl, by simpa using hf 1 f1 rfl, by simpa using hf 2 f2 rfl⟩
set_option maxRecDepth 100000 in
/-- Three cells that are a rational number. -/
theorem viewRc {H : Type} {enc : TypeId × Value → H} {W : World} {k : Nat} {c0 c1 c2 : Value} {z : DataW H × List MemPlace} (hf : DataW.trod enc Tryz.prog W 0 (fun _ => true) true k 25 [c0, c1, c2] = some z) :
    ∃ s x n c f y m b g, c0 = .bool s ∧ c1 = .slice x n c ∧ c2 = .slice y m b ∧ Rw W x n c f y m b g := by
  obtain ⟨y0, y1, y2, k, h0, h1, h2⟩ := fields3 Tryz.underlying25 hf
  have h0' : DataW.trod enc Tryz.prog W 0 (fun _ => true) true k 4 [c0] = some y0 := h0
  have h1' : DataW.trod enc Tryz.prog W 0 (fun _ => true) true k 23 [c1] = some y1 := h1
  have h2' : DataW.trod enc Tryz.prog W 0 (fun _ => true) true k 23 [c2] = some y2 := h2
  obtain ⟨s, hs, _⟩ := DataW.trod_bool Tryz.underlying4 h0'
  obtain ⟨ao, n, cap, f, rfl, hr, hlm, hnil, hc⟩ := viewL h1'
  obtain ⟨bo, m, cap', g, rfl, hr', hlm', hnil', hc'⟩ := viewL h2'
  simp at hs
  exact ⟨s, ao, n, cap, f, bo, m, cap', g, hs, rfl, rfl, hr, hlm, hc, hnil, hr', hlm', hc', hnil'⟩
set_option maxRecDepth 100000 in
/-- An argument that is a rational number. -/
theorem viewR {H : Type} {enc : TypeId × Value → H} {W : World} {base : Nat} {v : Value} {d : DataW H} {p : List MemPlace} (hok : Value.okWide Tryz.prog W .any base 25 v) (h : DataW.Trod enc Tryz.prog W 0 (fun _ => true) true 25 v d p) :
    ∃ s x n c f y m b g, v = .agg #[.bool s, .slice x n c, .slice y m b] ∧ Rw W x n c f y m b g := by
  obtain ⟨cs, rfl, hsz⟩ := okWide_struct Tryz.underlying25 hok
  rw [Tryz.cellsR] at hsz
  obtain ⟨fuel, hf⟩ := h
  obtain ⟨l⟩ := cs
  match l, hsz with
  | [c0, c1, c2], _ =>
    obtain ⟨s, x, n, c, f, y, m, b, g, rfl, rfl, rfl, hr⟩ := viewRc (k := fuel) hf
    exact ⟨s, x, n, c, f, y, m, b, g, rfl, hr⟩
/-- Cells in a row, each by itself. -/
theorem cells_at {w : World} {base n : Nat} {a : Addr} {cs : List Value} (h : w.cells? base a n = some cs) : cs.length = n ∧ ∀ i u, cs[i]? = some u → w.cell? (a.add i) = some u := by
  obtain ⟨_, h1, h2⟩ := World.cells?_some h
  refine ⟨h1, fun i u hi => ?_⟩
  have hlt : i < n := by rw [← h1]; exact (List.getElem?_eq_some_iff.1 hi).1
  rw [← hi]; exact h2 i hlt
theorem addr_add2 (a : Addr) (j i : Nat) : (a.add j).add i = a.add (j + i) := by
  obtain ⟨b, o, s⟩ := a
  by_cases hj : j = 0
  · subst hj; by_cases hi : i = 0
    · subst hi; simp [Addr.add]
    · simp [Addr.add, hi]
  · by_cases hi : i = 0
    · subst hi; simp [Addr.add, hj]
    · simp [Addr.add, hi, hj, Nat.add_assoc]
set_option maxRecDepth 100000 in
/-- An argument that is a list of numbers. -/
theorem viewRs {H : Type} {enc : TypeId × Value → H} {W : World} {base : Nat} {v : Value} {d : DataW H} {p : List MemPlace} (hok : Value.okWide Tryz.prog W .any base 45 v) (h : DataW.Trod enc Tryz.prog W 0 (fun _ => true) true 45 v d p) :
    ∃ ao k c X, v = .slice ao k c ∧ Rr W ao k X ∧ (k ≤ c ∧ c ≤ 9223372036854775807) := by
  obtain ⟨a0, len, cap, hv⟩ := okWide_slice Tryz.underlying45 hok
  subst hv
  obtain ⟨fuel, hf⟩ := h
  rcases Go.Deep.open_slice Tryz.underlying45 hf with ⟨hcs, _⟩ | ⟨a, len', cap', m, n, D, Pl, hcs, _, hl, hm, hmm, _, hel⟩
  · simp [Value.cells] at hcs
    obtain ⟨rfl, rfl, rfl⟩ := hcs
    exact ⟨none, 0, 0, fun _ => ⟨false, none, 0, 0, fun _ => 0, none, 0, 0, fun _ => 0⟩, rfl, fun j hj => by omega, by omega, by omega⟩
  · simp [Value.cells] at hcs
    obtain ⟨rfl, rfl, rfl⟩ := hcs
    have hX : ∀ j, ∃ t : Nm, j < len → W.cell? (a.add (j * 3)) = some (.bool t.s) ∧ W.cell? (a.add (j * 3 + 1)) = some (.slice t.x t.n t.c) ∧ W.cell? (a.add (j * 3 + 2)) = some (.slice t.y t.m t.d) ∧ Rw W t.x t.n t.c t.f t.y t.m t.d t.g := fun j => by
      by_cases hj : j < len
      · obtain ⟨cs', h1, h2⟩ := hel j (by simp only [if_true] at hmm; omega)
        rw [Tryz.cellsR] at h1
        obtain ⟨h3, h4⟩ := cells_at h1
        match cs', h3 with
        | [c0, c1, c2], _ =>
          obtain ⟨s, x, n, c, f, y, m, b, g, rfl, rfl, rfl, hr⟩ := viewRc h2
          refine ⟨⟨s, x, n, c, f, y, m, b, g⟩, fun _ => ⟨?_, ?_, ?_, hr⟩⟩
          · have := h4 0 _ rfl; rwa [addr_add2, Nat.add_zero] at this
          · have := h4 1 _ rfl; rwa [addr_add2] at this
          · have := h4 2 _ rfl; rwa [addr_add2] at this
      · exact ⟨⟨false, none, 0, 0, fun _ => 0, none, 0, 0, fun _ => 0⟩, fun h => absurd h hj⟩
    obtain ⟨X, hY⟩ : ∃ X : Nat → Nm, ∀ j, j < len → W.cell? (a.add (j * 3)) = some (.bool (X j).s) ∧ W.cell? (a.add (j * 3 + 1)) = some (.slice (X j).x (X j).n (X j).c) ∧ W.cell? (a.add (j * 3 + 2)) = some (.slice (X j).y (X j).m (X j).d) ∧ Rw W (X j).x (X j).n (X j).c (X j).f (X j).y (X j).m (X j).d (X j).g := ⟨fun j => Classical.choose (hX j), fun j => Classical.choose_spec (hX j)⟩
    refine ⟨some a, len, cap, X, rfl, fun j hj => ?_, hl, by unfold maxLen at hm; omega⟩
    obtain ⟨h1, h2, h3, h4⟩ := hY j hj
    obtain ⟨h01, _⟩ := hY 0 (by omega)
    obtain ⟨b, off, spot⟩ := a
    have hspot : spot = none := by simpa [Addr.add] using World.cell?_spot h01
    subst hspot
    rw [addr_add] at h1 h2 h3
    exact ⟨b, off, rfl, ⟨h1, h2, h3⟩, h4⟩
set_option maxRecDepth 100000 in
/-- An argument that is a list of terms. -/
theorem viewTs {H : Type} {enc : TypeId × Value → H} {W : World} {base : Nat} {v : Value} {d : DataW H} {p : List MemPlace} (hok : Value.okWide Tryz.prog W .any base 22 v) (h : DataW.Trod enc Tryz.prog W 0 (fun _ => true) true 22 v d p) :
    ∃ ao k c col X, v = .slice ao k c ∧ Tr W ao k col X ∧ (k ≤ c ∧ c ≤ 9223372036854775807) := by
  obtain ⟨a0, len, cap, hv⟩ := okWide_slice Tryz.underlying22 hok
  subst hv
  obtain ⟨fuel, hf⟩ := h
  rcases Go.Deep.open_slice Tryz.underlying22 hf with ⟨hcs, _⟩ | ⟨a, len', cap', m, n, D, Pl, hcs, _, hl, hm, hmm, _, hel⟩
  · simp [Value.cells] at hcs
    obtain ⟨rfl, rfl, rfl⟩ := hcs
    exact ⟨none, 0, 0, fun _ => 0, fun _ => ⟨false, none, 0, 0, fun _ => 0, none, 0, 0, fun _ => 0⟩, rfl, fun j hj => by omega, by omega, by omega⟩
  · simp [Value.cells] at hcs
    obtain ⟨rfl, rfl, rfl⟩ := hcs
    have hX : ∀ j, ∃ z : Int × Nm, j < len → W.cell? (a.add (j * 4)) = some (.int .i64 z.1) ∧ W.cell? (a.add (j * 4 + 1)) = some (.bool z.2.s) ∧ W.cell? (a.add (j * 4 + 2)) = some (.slice z.2.x z.2.n z.2.c) ∧ W.cell? (a.add (j * 4 + 3)) = some (.slice z.2.y z.2.m z.2.d) ∧ Rw W z.2.x z.2.n z.2.c z.2.f z.2.y z.2.m z.2.d z.2.g := fun j => by
      by_cases hj : j < len
      · obtain ⟨cs', h1, h2⟩ := hel j (by simp only [if_true] at hmm; omega)
        rw [Tryz.cellsT] at h1
        obtain ⟨h3, h4⟩ := cells_at h1
        match cs', h3 with
        | [c0, c1, c2, c3], _ =>
          obtain ⟨y0, y1, k, hx, hl, g0, g1⟩ := trod_struct2 Tryz.underlying69 h2
          have g0' : DataW.trod enc Tryz.prog W 0 (fun _ => true) true k 3 [c0] = some y0 := g0
          have g1' : DataW.trod enc Tryz.prog W 0 (fun _ => true) true k 25 [c1, c2, c3] = some y1 := g1
          obtain ⟨z, hz, _⟩ := DataW.trod_int Tryz.underlying3 g0'
          simp at hz
          obtain ⟨s, x, n, c, f, y, m, b, g, rfl, rfl, rfl, hr⟩ := viewRc g1'
          refine ⟨(z, ⟨s, x, n, c, f, y, m, b, g⟩), fun _ => ⟨?_, ?_, ?_, ?_, hr⟩⟩
          · have := h4 0 _ rfl; rw [addr_add2, Nat.add_zero, hz] at this; exact this
          · have := h4 1 _ rfl; rwa [addr_add2] at this
          · have := h4 2 _ rfl; rwa [addr_add2] at this
          · have := h4 3 _ rfl; rwa [addr_add2] at this
      · exact ⟨(0, ⟨false, none, 0, 0, fun _ => 0, none, 0, 0, fun _ => 0⟩), fun h => absurd h hj⟩
    obtain ⟨X, hY⟩ : ∃ X : Nat → Int × Nm, ∀ j, j < len → W.cell? (a.add (j * 4)) = some (.int .i64 (X j).1) ∧ W.cell? (a.add (j * 4 + 1)) = some (.bool (X j).2.s) ∧ W.cell? (a.add (j * 4 + 2)) = some (.slice (X j).2.x (X j).2.n (X j).2.c) ∧ W.cell? (a.add (j * 4 + 3)) = some (.slice (X j).2.y (X j).2.m (X j).2.d) ∧ Rw W (X j).2.x (X j).2.n (X j).2.c (X j).2.f (X j).2.y (X j).2.m (X j).2.d (X j).2.g := ⟨fun j => Classical.choose (hX j), fun j => Classical.choose_spec (hX j)⟩
    refine ⟨some a, len, cap, fun j => (X j).1, fun j => (X j).2, rfl, fun j hj => ?_, hl, by unfold maxLen at hm; omega⟩
    obtain ⟨h1, h2, h3, h4, h5⟩ := hY j hj
    obtain ⟨h01, _⟩ := hY 0 (by omega)
    obtain ⟨b, off, spot⟩ := a
    have hspot : spot = none := by simpa [Addr.add] using World.cell?_spot h01
    subst hspot
    rw [addr_add] at h1 h2 h3 h4
    exact ⟨b, off, rfl, ⟨h1, h2, h3, h4⟩, h5⟩
end Go.Proofs.YthofcgpghbaccaaGreat
namespace Go.Proofs.YthofcgpghbaccaaGreat
open Go.RowKit

/-- No cell is a limb. -/
def NoU (cur : Array Value) : Prop := ∀ (i : Nat) (z : Int), cur[i]? ≠ some (Value.int .u64 z)
/-- Nothing that holds limbs has turned; there may be new blocks. -/
structure Kp (w w' : World) : Prop where
  os : w'.os = w.os
  tape : w'.tape = w.tape
  output : w'.output = w.output
  size : w.heap.size ≤ w'.heap.size
  block : ∀ k, k < w.heap.size → w'.heap[k]? = w.heap[k]? ∨ ∃ cur t fr, w.heap[k]? = some (.cells cur t fr) ∧ NoU cur
theorem Kp.refl (w : World) : Kp w w := ⟨rfl, rfl, rfl, Nat.le_refl _, fun _ _ => .inl rfl⟩
theorem Kp.trans {a b c : World} (h : Kp a b) (k : Kp b c) : Kp a c :=
  ⟨k.os.trans h.os, k.tape.trans h.tape, k.output.trans h.output, Nat.le_trans h.size k.size, fun i hi => by
    rcases h.block i hi with e | e
    · rcases k.block i (Nat.lt_of_lt_of_le hi h.size) with e2 | ⟨cur, t, fr, e2, e3⟩
      · exact .inl (e2.trans e)
      · exact .inr ⟨cur, t, fr, e.symm.trans e2, e3⟩
    · exact .inr e⟩
theorem Kp.of_below {w w' : World} (h : Below w.heap.size w w') : Kp w w' := ⟨h.os, h.tape, h.output, h.size, fun k hk => .inl (h.block k hk)⟩
theorem Kp.drew {a w : World} (h : Kp a w) : Kp a w.drew := ⟨h.os, h.tape, h.output, h.size, h.block⟩
theorem Kp.drewN {a w : World} (h : Kp a w) (q : Nat) : Kp a (w.drewN q) := ⟨h.os, h.tape, h.output, h.size, h.block⟩
theorem Kp.alloc {a w : World} (h : Kp a w) (o : Obj) : Kp a (w.alloc o) := h.trans (Kp.of_below (below_alloc (Below.refl _ _) o))
theorem Kp.set {a w : World} (h : Kp a w) {x : Addr} {cur : Array Value} {t : TypeId} {fr : Nat × Nat} (hx : w.heap[x.block]? = some (.cells cur t fr)) (hu : NoU cur) (u : Value) : Kp a (w.setCell x u) :=
  h.trans ⟨rfl, rfl, rfl, by simp [World.setCell], fun k _ => by
    by_cases e : k = x.block
    · subst e; exact .inr ⟨cur, t, fr, hx, hu⟩
    · exact .inl (Below.heap_setCell _ _ _ _ e)⟩
theorem Rd.kp {w w' ao n f} (h : Rd .u64 w ao n f) (hk : Kp w w') : Rd .u64 w' ao n f := fun j hj => by
  obtain ⟨b, o, e, hc⟩ := h j hj
  refine ⟨b, o, e, ?_⟩
  have hl := World.block_lt_of_cell? w _ hc
  rcases hk.block b hl with h1 | ⟨cur, t, fr, h1, h2⟩
  · exact (World.cell?_of_block (a := ⟨b, o + j, none⟩) h1).trans hc
  · exfalso
    simp [World.cell?, h1] at hc
    exact h2 _ _ hc
theorem Wn.kp {w w' s x n c f v} (h : Wn w s x n c f v) (hk : Kp w w') : Wn w' s x n c f v := ⟨h.rd.kp hk, h.lm, h.wf, h.cap, h.nil, h.val⟩
theorem Rn.kp {L w w' s x n c f y m d g q} (h : Rn L w s x n c f y m d g q) (hk : Kp w w') : Rn L w' s x n c f y m d g q := ⟨h.num.kp hk, h.den.kp hk, h.ln, h.ld⟩

/-- A row of structs of the call's own, from block 'base' on, or nil. -/
def RowG (e : TypeId) (sz base : Nat) (w : World) (v : Value) (n : Nat) (xs : List Value) : Prop :=
  xs.length = n * sz ∧ ((v = .slice none 0 0 ∧ n = 0) ∨ ∃ g cap cur, v = .slice (some ⟨g, 0, none⟩) n cap ∧ base ≤ g ∧ w.heap[g]? = some (.cells cur e (0, 0)) ∧ n ≤ cap ∧ cap ≤ maxLen ∧ cur.size = cap * sz ∧ cur.toList.take (n * sz) = xs ∧ NoU cur)
theorem rowG_nil (e : TypeId) (sz base : Nat) (w : World) : RowG e sz base w (.slice none 0 0) 0 [] := ⟨by simp, .inl ⟨rfl, rfl⟩⟩
theorem RowG.owns {e sz base w v n xs} (h : RowG e sz base w v n xs) : w.ownsRow base e sz v n xs := by
  obtain ⟨h1, h2⟩ := h
  refine ⟨h1, ?_⟩
  rcases h2 with h2 | ⟨g, cap, cur, a, b, c, d, e1, f, g1, _⟩
  · exact .inl h2
  · exact .inr ⟨g, cap, cur, a, b, c, d, e1, f, g1⟩
theorem RowG.of {e sz base w w' v n xs} (h : RowG e sz base w v n xs) (hh : ∀ g, v.ownBlock = some g → w'.heap[g]? = w.heap[g]?) : RowG e sz base w' v n xs := by
  obtain ⟨h1, h2⟩ := h
  refine ⟨h1, ?_⟩
  rcases h2 with h2 | ⟨g, cap, cur, rfl, b, c, d, e1, f, g1, k⟩
  · exact .inl h2
  · exact .inr ⟨g, cap, cur, rfl, b, (hh g rfl).trans c, d, e1, f, g1, k⟩
theorem RowG.lt {e sz base w v n xs} (h : RowG e sz base w v n xs) : ∀ g, v.ownBlock = some g → base ≤ g ∧ g < w.heap.size := by
  intro g0 hg0
  rcases h.2 with ⟨rfl, _⟩ | ⟨g, cap, cur, rfl, b, c, _⟩
  · cases hg0
  · have : g = g0 := by simpa [Value.ownBlock] using hg0
    subst this
    exact ⟨b, (Array.getElem?_eq_some_iff.1 c).1⟩
theorem RowG.below {e sz base w w' v n xs} (h : RowG e sz base w v n xs) (hb : Below w.heap.size w w') : RowG e sz base w' v n xs := h.of (fun g hg => hb.block g (h.lt g hg).2)
theorem RowG.cells {e sz base w n xs g cap} (h : RowG e sz base w (.slice (some ⟨g, 0, none⟩) n cap) n xs) {j : Nat} {u : Value} (hu : xs[j]? = some u) : w.cell? ⟨g, j, none⟩ = some u := by
  obtain ⟨h1, h2⟩ := h
  rcases h2 with ⟨h2, _⟩ | ⟨g', cap', cur, hv, b, c, d, e1, f, g1, k⟩
  · cases h2
  · cases hv
    have : cur.toList[j]? = some u := by
      rw [← g1] at hu
      rw [List.getElem?_take] at hu
      split at hu
      · exact hu
      · cases hu
    simp [World.cell?, c]
    simpa using this
theorem nou_append {a b : Array Value} (ha : NoU a) (hb : NoU b) : NoU (a ++ b) := fun i z h => by
  rw [Array.getElem?_append] at h
  split at h
  · exact ha _ _ h
  · exact hb _ _ h
theorem nou_list {l : List Value} (h : ∀ u ∈ l, ∀ z, u ≠ .int .u64 z) : NoU l.toArray := fun i z he => by
  rw [List.getElem?_toArray] at he
  exact h _ (List.mem_of_getElem? he) z rfl
theorem nou_mem {a : Array Value} (h : NoU a) : ∀ u ∈ a.toList, ∀ z, u ≠ .int .u64 z := fun u hu z e => by
  obtain ⟨i, hi⟩ := List.getElem?_of_mem hu
  subst e
  exact h i z (by simpa using hi)

/-- 'out = append(out, x)', out such a row, x one struct. -/
theorem wpList_append_G {P : Program} (w : World) {ops : Array Oper} {rest : List Oper} {o : Oper} {a : Act} {Q : Exit → Act → World → Prop} (hgd : o.guard = none) (s x : Operand) (t : TypeId)
    (ho : o.op = .call { callee := .builtin .append, args := #[s, x], argTypes := #[t, t] })
    (base : Nat) (e : TypeId) (i : TypeInfo) (z : Value) (size bytes : Nat) (ht : P.underlying t = some (.slice e)) (hi : P.info? e = some i) (hz : i.zero = some z)
    (hsize : i.size = size) (hby : i.bytes = bytes) (hzs : z.cells.size = size) (hsz : 0 < size) (hzu : NoU z.cells)
    (v : Value) (n : Nat) (xs : List Value) (hs : a.eval s = v) (hown : RowG e size base w v n xs)
    (ad : Addr) (m c : Nat) (news : List Value) (hx : a.eval x = .slice (some ad) m c) (hl : news.length = m * size) (hnews : ∀ j u, news[j]? = some u → w.cell? (ad.add j) = some u) (h1 : ∀ u ∈ news, u.oneCell' = true) (hnu : ∀ u ∈ news, ∀ z, u ≠ .int .u64 z)
    (hm0 : 0 < m) (h63 : n + m ≤ maxLen) (hbytes : (n + m) * bytes ≤ 140737488355328) (hbase : base ≤ w.heap.size)
    (hK : ∀ g cap' w', RowG e size base w' (.slice (some ⟨g, 0, none⟩) (n + m) cap') (n + m) (xs ++ news) → w.grownBy w' v.ownBlock → Kp w w' → wpList P ops Q rest (a.put o.dst (.slice (some ⟨g, 0, none⟩) (n + m) cap')) w') : wpList P ops Q (o :: rest) a w := by
  subst hsize; subst hby
  obtain ⟨v', w', hrun, h1', h2', h3'⟩ := run_append_own (P := P) w base t o.type e i z i.size i.bytes ht hi hz rfl rfl hzs hsz v n xs hown.owns ad m c news hl hnews h1 h63 hbytes hbase
  have hlen : (xs ++ news).length = (n + m) * i.size := by rw [List.length_append, hown.1, hl, Nat.add_mul]
  have hzc : ∀ k, NoU (Builtin.zeroCells z.cells k) := by
    intro k j y hj
    simp only [Builtin.zeroCells] at hj
    have hm := Array.mem_of_getElem? hj
    obtain ⟨q, _, he⟩ := Array.mem_map.1 hm
    have hlt : q % z.cells.size < z.cells.size := Nat.mod_lt _ (by omega)
    rw [getElem!_pos z.cells (q % z.cells.size) hlt] at he
    exact hzu (q % z.cells.size) y (by rw [Array.getElem?_eq_getElem hlt, he])
  have hnu' : NoU news.toArray := nou_list hnu
  have hw : ∃ g cap' cur', v' = .slice (some ⟨g, 0, none⟩) (n + m) cap' ∧ base ≤ g ∧ w'.heap[g]? = some (.cells cur' e (0, 0)) ∧ n + m ≤ cap' ∧ cap' ≤ maxLen ∧ cur'.size = cap' * i.size ∧ cur'.toList.take ((n + m) * i.size) = xs ++ news ∧ NoU cur' ∧ Kp w w' := by
    have hsm : n + m ≤ 9223372036854775807 := by unfold maxLen at h63; omega
    rcases h1'.2 with ⟨hv0, hn0⟩ | ⟨g', cap', cur', hv', hb', hg', hn', hc', hs', ht'⟩
    · omega
    · refine ⟨g', cap', cur', hv', hb', hg', hn', hc', hs', ht', ?_⟩
      rcases hown.2 with ⟨rfl, rfl⟩ | ⟨g, cap, cur, rfl, hbg, hg, hnc, hcm, hcs, htake, hnuc⟩
      · have hx0 : xs = [] := List.eq_nil_of_length_eq_zero (by simpa using hown.1)
        subst hx0
        have e1 := run_append_nil (P := P) w t o.type e i z ht hi hz ad m c news hl hnews hm0 (by omega) (by rw [Nat.zero_add] at hbytes; omega)
        rw [e1] at hrun
        injection hrun with e2 e3
        subst e3
        rw [hv'] at e2
        injection e2 with e4
        injection e4 with e5
        injection e5 with e6
        subst e6
        have e7 := heap_alloc_new w.drew (.cells (news.toArray ++ Builtin.zeroCells z.cells (grownCap w m 0 e - m)) e)
        rw [show w.heap.size = w.drew.heap.size from rfl, e7] at hg'
        injection hg' with e8
        injection e8 with e9
        rw [← e9]
        exact ⟨nou_append hnu' (hzc _), (Kp.refl w).drew.alloc _⟩
      · by_cases hroom : n + m ≤ cap
        · have e1 := run_append_room (P := P) w t o.type e i ht hi g n cap cur hg ad m c news hl hnews h1 hroom (by rw [hl, hcs, ← Nat.add_mul]; exact Nat.mul_le_mul_right _ hroom)
          rw [e1] at hrun
          injection hrun with e2 e3
          rw [hv'] at e2
          injection e2 with e4
          injection e4 with e5
          injection e5 with e6
          subst e6
          have e7 : w'.heap[g]? = some (.cells (cur.toList.take (n * i.size) ++ news ++ cur.toList.drop (n * i.size + news.length)).toArray e (0, 0)) := by rw [← e3]; exact setRow_heap w g cur _ e _ hg
          rw [e7] at hg'
          injection hg' with e8
          injection e8 with e9
          rw [← e9]
          refine ⟨nou_list ?_, h2'.os, h2'.tape, h2'.output, h2'.size, fun k hk => ?_⟩
          · intro u hu
            rcases List.mem_append.1 hu with hu | hu
            · rcases List.mem_append.1 hu with hu | hu
              · exact nou_mem hnuc u (List.mem_of_mem_take hu)
              · exact hnu u hu
            · exact nou_mem hnuc u (List.mem_of_mem_drop hu)
          · by_cases hkg : k = g
            · subst hkg; exact .inr ⟨cur, e, (0, 0), hg, hnuc⟩
            · exact .inl (h2'.block k hk (fun e => hkg (by simpa [Value.ownBlock] using e)))
        · have holds : ∀ j u, xs[j]? = some u → w.cell? ((⟨g, 0, none⟩ : Addr).add j) = some u := World.ownsRow.cells hown.owns (g := g) rfl
          have e1 := run_append_grow (P := P) w t o.type e i z ht hi hz ⟨g, 0, none⟩ n cap xs hown.1 holds ad m c news hl hnews (by omega) (by omega) (growslice_fits (by omega) hbytes)
          rw [e1] at hrun
          injection hrun with e2 e3
          subst e3
          rw [hv'] at e2
          injection e2 with e4
          injection e4 with e5
          injection e5 with e6
          subst e6
          have e7 := heap_alloc_new w.drew (.cells (xs.toArray ++ news.toArray ++ Builtin.zeroCells z.cells (grownCap w (n + m) cap e - (n + m))) e)
          rw [show w.heap.size = w.drew.heap.size from rfl, e7] at hg'
          injection hg' with e8
          injection e8 with e9
          rw [← e9]
          refine ⟨nou_append (nou_append (nou_list ?_) hnu') (hzc _), (Kp.refl w).drew.alloc _⟩
          intro u hu
          rw [← htake] at hu
          exact nou_mem hnuc u (List.mem_of_mem_take hu)
  obtain ⟨g, cap', cur', rfl, a1, a2, a3, a4, a5, a6, a7, a8⟩ := hw
  refine wpList_plain hgd fun _ hK' => ?_
  unfold Oper.wp execOp
  simp only [ho, resolve, invoke, builtin, Sem.run_bind, Sem.run_pure, Result.andThen_ok, List.map_toArray, List.map_cons, List.map_nil, hs, hx, hrun]
  exact hK' _ _ (hK g cap' w' ⟨hlen, .inr ⟨g, cap', cur', rfl, a1, a2, a3, a4, a5, a6, a7⟩⟩ h2' a8)
end Go.Proofs.YthofcgpghbaccaaGreat
namespace Go.Proofs.YthofcgpghbaccaaGreat
open Go.RowKit

theorem Tryz.infoTerm : (Tryz.prog.info? 69).map (fun i => (i.zero, i.size, i.bytes)) = some (some (.agg #[.int .i64 0, .bool false, .slice none 0 0, .slice none 0 0]), 4, 64) := by kernel_rfl
/-- The cells of a list of terms. -/
def tcell (z : Int) (t : Nm) : List Value := [.int .i64 z, .bool t.s, .slice t.x t.n t.c, .slice t.y t.m t.d]
def tcells (l : List (Int × Nm)) : List Value := l.flatMap (fun p => tcell p.1 p.2)
theorem tcells_append (l : List (Int × Nm)) (z : Int) (t : Nm) : tcells (l ++ [(z, t)]) = tcells l ++ tcell z t := by simp [tcells]
theorem tcells_length (l : List (Int × Nm)) : (tcells l).length = l.length * 4 := by
  induction l with
  | nil => rfl
  | cons p l ih => simp only [tcells, List.flatMap_cons, List.length_append, List.length_cons] at ih ⊢; rw [ih]; simp [tcell]; omega
/-- The list with one more term, unless that is 0. -/
def plusT (l : List (Int × Nm)) (z : Int) (t : Nm) : List (Int × Nm) := if t.n = 0 then l else l ++ [(z, t)]
theorem plusT_zero {l : List (Int × Nm)} {z : Int} {t : Nm} (h : t.n = 0) : plusT l z t = l := by unfold plusT; rw [if_pos h]
theorem plusT_pos {l : List (Int × Nm)} {z : Int} {t : Nm} (h : t.n ≠ 0) : plusT l z t = l ++ [(z, t)] := by unfold plusT; rw [if_neg h]
/-- The list that is being put together: a variable in block Bv, its row from block 'base' on. -/
structure Ac (base : Nat) (w : World) (Bv : Nat) (l : List (Int × Nm)) : Prop where
  le : base ≤ Bv
  row : ∃ v, w.heap[Bv]? = some (.cells #[v] 22 (0, 0)) ∧ RowG 69 4 base w v l.length (tcells l)
theorem Ac.below {base w w' Bv l} (h : Ac base w Bv l) (hb : Below w.heap.size w w') : Ac base w' Bv l := by
  obtain ⟨v, h1, h2⟩ := h.row
  exact ⟨h.le, v, (hb.block Bv (Array.getElem?_eq_some_iff.1 h1).1).trans h1, h2.below hb⟩
theorem Ac.drewN {base w Bv l} (h : Ac base w Bv l) (q : Nat) : Ac base (w.drewN q) Bv l := h.below (below_drewN (Below.refl _ _) q)
theorem nou_one {v : Value} (h : ∀ z, v ≠ .int .u64 z) : NoU #[v] := fun i z he => by
  rcases Nat.lt_or_ge i 1 with hi | hi
  · obtain rfl : i = 0 := by omega
    exact h z (by simpa using he)
  · rw [Array.getElem?_eq_none (by simpa using hi)] at he; cases he
theorem RowG.slice {e sz base w v n xs} (h : RowG e sz base w v n xs) : ∃ ao cap, v = .slice ao n cap := by
  rcases h.2 with ⟨rfl, rfl⟩ | ⟨g, cap, cur, rfl, _⟩
  · exact ⟨none, 0, rfl⟩
  · exact ⟨_, cap, rfl⟩

theorem row_ne {w : World} {e : TypeId} {sz base n Bv : Nat} {v u : Value} {xs : List Value} {t : TypeId} {fr : Nat × Nat} (h : RowG e sz base w v n xs) (hv : w.heap[Bv]? = some (.cells #[u] t fr)) (ht : e ≠ t) : ∀ g, v.ownBlock = some g → g ≠ Bv := by
  intro g hg e1
  subst e1
  rcases h.2 with ⟨rfl, _⟩ | ⟨g', cap, cur, rfl, b, c, _⟩
  · cases hg
  · have : g' = g := by simpa [Value.ownBlock] using hg
    subst this
    rw [hv] at c
    injection c with c1
    injection c1 with _ c2
    exact ht c2.symm
theorem ac_put {base Bv n' g' cap' : Nat} {w w2 : World} {v : Value} {l l' : List (Int × Nm)} (hle : base ≤ Bv) (hv : w.heap[Bv]? = some (.cells #[v] 22 (0, 0))) (hrow : RowG 69 4 base w v l.length (tcells l)) (hg : w.grownBy w2 v.ownBlock)
    (h2 : RowG 69 4 base w2 (.slice (some ⟨g', 0, none⟩) n' cap') n' (tcells l')) (hn : n' = l'.length) :
    Ac base (w2.setCell ⟨Bv, 0, none⟩ (.slice (some ⟨g', 0, none⟩) n' cap')) Bv l' ∧ w2.heap[Bv]? = some (.cells #[v] 22 (0, 0)) := by
  subst hn
  have hlt := (Array.getElem?_eq_some_iff.1 hv).1
  have e1 : w2.heap[Bv]? = some (.cells #[v] 22 (0, 0)) := (hg.block Bv hlt (fun e => row_ne hrow hv (by decide) Bv e.symm rfl)).trans hv
  refine ⟨⟨hle, _, ?_, h2.of (fun g hgb => Below.heap_setCell _ _ _ _ (row_ne h2 e1 (by decide) g hgb))⟩, e1⟩
  simp [World.setCell, Array.getElem?_modify, e1]

/-- Nothing has turned but rows of terms and variables that hold such rows. -/
structure Ky (w w' : World) : Prop where
  size : w.heap.size ≤ w'.heap.size
  block : ∀ k, k < w.heap.size → w'.heap[k]? = w.heap[k]? ∨ ∃ cur t fr, w.heap[k]? = some (.cells cur t fr) ∧ (t = 69 ∨ t = 22)
theorem Ky.trans {a b c : World} (h : Ky a b) (k : Ky b c) : Ky a c :=
  ⟨Nat.le_trans h.size k.size, fun i hi => by
    rcases h.block i hi with e | e
    · rcases k.block i (Nat.lt_of_lt_of_le hi h.size) with e2 | ⟨cur, t, fr, e2, e3⟩
      · exact .inl (e2.trans e)
      · exact .inr ⟨cur, t, fr, e.symm.trans e2, e3⟩
    · exact .inr e⟩
theorem Ky.of_below {w w' : World} (h : Below w.heap.size w w') : Ky w w' := ⟨h.size, fun k hk => .inl (h.block k hk)⟩
theorem Ky.grown {w w' : World} {base n : Nat} {v : Value} {xs : List Value} (hr : RowG 69 4 base w v n xs) (hg : w.grownBy w' v.ownBlock) : Ky w w' :=
  ⟨hg.size, fun k hk => by
    rcases hr.2 with ⟨rfl, _⟩ | ⟨g, cap, cur, rfl, b, c, _⟩
    · exact .inl (hg.block k hk (fun e => by cases e))
    · by_cases e : k = g
      · subst e; exact .inr ⟨_, _, _, c, .inl rfl⟩
      · exact .inl (hg.block k hk (fun e2 => e (by simpa [Value.ownBlock] using e2)))⟩
theorem Ky.set {w : World} {Bv : Nat} {o : Nat} {cur : Array Value} (h : w.heap[Bv]? = some (.cells cur 22 (0, 0))) (u : Value) : Ky w (w.setCell ⟨Bv, o, none⟩ u) :=
  ⟨by simp [World.setCell], fun k _ => by
    by_cases e : k = Bv
    · subst e; exact .inr ⟨_, _, _, h, .inr rfl⟩
    · exact .inl (Below.heap_setCell _ _ _ _ e)⟩
theorem Ky.keep {w w' : World} (h : Ky w w') {k : Nat} {cur : Array Value} {t : TypeId} {fr : Nat × Nat} (hk : w.heap[k]? = some (.cells cur t fr)) (h1 : t ≠ 69) (h2 : t ≠ 22) : w'.heap[k]? = some (.cells cur t fr) := by
  rcases h.block k (Array.getElem?_eq_some_iff.1 hk).1 with e | ⟨cur', t', fr', e, e2⟩
  · exact e.trans hk
  · rw [hk] at e
    injection e with e3
    injection e3 with _ e4
    subst e4
    rcases e2 with e2 | e2
    · exact absurd e2 h1
    · exact absurd e2 h2

set_option maxRecDepth 100000 in
set_option maxHeartbeats 4000000 in
theorem put_c {w : World} {base Bv : Nat} {l : List (Int × Nm)} {z : Int} {s : Bool} {x : Option Addr} {n c : Nat} {f : Nat → Int} {y : Option Addr} {m d : Nat} {g : Nat → Int} (h : Ac base w Bv l) (hl : l.length ≤ 100000) (hn : n ≤ 1048576) :
    Calls Tryz.prog 78 #[.int .i64 z, .agg #[.bool s, .slice x n c, .slice y m d], .pointer (some ⟨Bv, 0, none⟩)] w fun e w' => e = .returned (.tuple #[]) ∧ Below base w w' ∧ Kp w w' ∧ Ky w w' ∧ Ac base w' Bv (plusT l z ⟨s, x, n, c, f, y, m, d, g⟩) := by
  obtain ⟨v, hv, hrow⟩ := h.row
  have hlt := (Array.getElem?_eq_some_iff.1 hv).1
  have hle := h.le
  have H := hid h
  clear h
  go_enter Tryz.func78, Tryz.ntmps78
  go_wp2_with fail
  refine (isZero_c s x n c y m d _ (by omega)).mono ?_
  rintro e w1 ⟨rfl, hb1⟩
  obtain ⟨z0, y0, y1, y2, hb2⟩ := box3 hb1
  have HA := hid (H.out.below hb2)
  have HB := hid hb2
  clear hb1 hb2 H hv hrow
  by_cases hn0 : n = 0
  · subst hn0
    go_wp2
    go_end0
    exact ⟨rfl, HB.out.mono (by omega), Kp.of_below HB.out, Ky.of_below HB.out, by rw [plusT_zero rfl]; exact HA.out⟩
  · obtain ⟨v1, hv1, hrow1⟩ := HA.out.row
    obtain ⟨ao, cap, rfl⟩ := hrow1.slice
    have hcv : w1.cell? ⟨Bv, 0, none⟩ = some (.slice ao l.length cap) := by simp [World.cell?, hv1]
    have hfv : w1.frozen? ⟨Bv, 0, none⟩ = false := by simp [World.frozen?, hv1]
    obtain ⟨i0, hi, hz0, hz1, hz2⟩ := info_parts Tryz.infoTerm
    have hba := below_alloc (Below.refl w1.heap.size w1) (.cells #[.int .i64 z, .bool s, .slice x n c, .slice y m d] 69)
    have hrow2 := hrow1.below hba
    have hv2 := (hba.block Bv (by omega)).trans hv1
    have HR2 := hid hrow2; have HV2 := hid hv2; have HBA := hid hba
    have hblk := heap_alloc_new w1 (.cells #[.int .i64 z, .bool s, .slice x n c, .slice y m d] 69)
    have HBK := hid hblk
    have hnd : decide (n = 0) = false := by simp [hn0]
    rw [hnd]
    have HI := hid hi; have HZ0 := hid hz0; have HZ1 := hid hz1; have HZ2 := hid hz2
    clear hrow1 hrow2 hv1 hv2 hba hblk HA hi hz0 hz1 hz2
    go_wp2_with (at_builtin; go_must (refine wpList_append_G _ rfl (.tmp 8) (.tmp 12) 22 rfl base 69 i0 (.agg #[.int .i64 0, .bool false, .slice none 0 0, .slice none 0 0]) 4 64 Tryz.underlying22 HI.out HZ0.out HZ1.out HZ2.out rfl (by decide) ?u1 (.slice ao l.length cap) l.length (tcells l) rfl HR2.out ⟨w1.heap.size, 0, none⟩ 1 1 (tcell z ⟨s, x, n, c, f, y, m, d, g⟩) rfl rfl ?u2 ?u3 ?u4 (by decide) (by unfold maxLen; omega) (by omega) ?u5 ?_))
    case u1 =>
      intro j q hj
      rcases (show j = 0 ∨ j = 1 ∨ j = 2 ∨ j = 3 ∨ 4 ≤ j by omega) with rfl | rfl | rfl | rfl | hj4
      · simp [Value.cells] at hj
      · simp [Value.cells] at hj
      · simp [Value.cells] at hj
      · simp [Value.cells] at hj
      · rw [Array.getElem?_eq_none (by simpa [Value.cells] using hj4)] at hj; cases hj
    case u2 =>
      intro j u hu
      rw [addr_add, Nat.zero_add]
      have e1 := HBK.out
      simp only [World.cell?, e1]
      simpa [tcell] using hu
    case u3 => intro u hu; simp [tcell] at hu; rcases hu with rfl | rfl | rfl | rfl <;> rfl
    case u4 => intro u hu q; simp [tcell] at hu; rcases hu with rfl | rfl | rfl | rfl <;> simp
    case u5 => have := HB.out.size; simp; omega
    intro g' cap' w2 hr2 hgr hkp
    rw [← tcells_append] at hr2
    have hfin := ac_put (l' := l ++ [(z, ⟨s, x, n, c, f, y, m, d, g⟩)]) hle HV2.out HR2.out hgr hr2 (by simp)
    have hcv2 : w2.cell? ⟨Bv, 0, none⟩ = some (.slice ao l.length cap) := by simp [World.cell?, hfin.2]
    have hfv2 : w2.frozen? ⟨Bv, 0, none⟩ = false := by simp [World.frozen?, hfin.2]
    have HF := hid hfin.1
    have hkp2 := (((Kp.of_below HB.out).trans (Kp.of_below HBA.out)).trans hkp).set (x := ⟨Bv, 0, none⟩) hfin.2 (nou_one (fun q => by simp)) (.slice (some ⟨g', 0, none⟩) (l.length + 1) cap')
    have HK := hid hkp2
    have HY := hid ((((Ky.of_below HB.out).trans (Ky.of_below HBA.out)).trans (Ky.grown HR2.out hgr)).trans (Ky.set (o := 0) hfin.2 (.slice (some ⟨g', 0, none⟩) (l.length + 1) cap')))
    have hbb : Below base w (w2.setCell ⟨Bv, 0, none⟩ (.slice (some ⟨g', 0, none⟩) (l.length + 1) cap')) := by
      have h1 : Below base w w1 := HB.out.mono (by omega)
      have h2 : Below base w (w1.alloc (.cells #[.int .i64 z, .bool s, .slice x n c, .slice y m d] 69)) := h1.trans (HBA.out.mono (by have := HB.out.size; omega))
      have h3 : Below base w w2 := h2.grown hgr (by have := HB.out.size; simp; omega) (fun k hk => (HR2.out.lt k hk).1)
      exact h3.trans ⟨rfl, rfl, rfl, by simp [World.setCell], fun k hk => Below.heap_setCell _ _ _ _ (by simp; omega)⟩
    have HBB := hid hbb
    clear hfin hkp2 hbb hr2 hgr hkp HR2 HV2 HBA HBK hcv hfv
    go_wp2
    go_end0
    exact ⟨rfl, HBB.out, HK.out, HY.out, by rw [plusT_pos hn0]; exact HF.out⟩
end Go.Proofs.YthofcgpghbaccaaGreat
namespace Go.Proofs.YthofcgpghbaccaaGreat
open Go.RowKit

/-- A list of terms that reads as v, numbers in form of at most L limbs. -/
def Tf (L : Nat) (w : World) (ao : Option Addr) (v : List (Int × Rat)) : Prop :=
  ∀ (j : Nat) (a : Int) (q : Rat), v[j]? = some (a, q) → ∃ b o, ∃ t : Nm, ao = some ⟨b, o, none⟩ ∧ C4 w b (o + j * 4) (.int .i64 a) (.bool t.s) (.slice t.x t.n t.c) (.slice t.y t.m t.d) ∧ Rn L w t.s t.x t.n t.c t.f t.y t.m t.d t.g q
theorem Tf.below {L w w' ao v} (h : Tf L w ao v) (hb : Below w.heap.size w w') : Tf L w' ao v := fun j a q hj => by
  obtain ⟨b, o, t, e, h1, h2⟩ := h j a q hj
  exact ⟨b, o, t, e, h1.below hb, h2.below hb⟩
theorem Tf.nil (L : Nat) (w : World) (ao : Option Addr) : Tf L w ao [] := fun j a q h => by simp at h
theorem Tf.head {L w ao a q v} (h : Tf L w ao ((a, q) :: v)) : ∃ b o, ∃ t : Nm, ao = some ⟨b, o, none⟩ ∧ C4 w b o (.int .i64 a) (.bool t.s) (.slice t.x t.n t.c) (.slice t.y t.m t.d) ∧ Rn L w t.s t.x t.n t.c t.f t.y t.m t.d t.g q := by
  obtain ⟨b, o, t, e, h1, h2⟩ := h 0 a q rfl
  rw [Nat.zero_mul, Nat.add_zero] at h1
  exact ⟨b, o, t, e, h1, h2⟩
theorem Tf.tail {L w b o p v} (h : Tf L w (some ⟨b, o, none⟩) (p :: v)) : Tf L w (some ⟨b, o + 4, none⟩) v := fun j a q hj => by
  obtain ⟨b', o', t, e, h1, h2⟩ := h (j + 1) a q (by simpa using hj)
  cases e
  refine ⟨b, o + 4, t, rfl, ?_, h2⟩
  rw [show o + 4 + j * 4 = o + (j + 1) * 4 by omega]; exact h1
def slen : Value → Nat
  | .slice _ n _ => n
  | _ => 0
/-- One term, unless it is 0. -/
def nz (a : Int) (q : Rat) : List (Int × Rat) := if q = 0 then [] else [(a, q)]
/-- v + r w, by rising columns. -/
def mg (r : Rat) : List (Int × Rat) → List (Int × Rat) → List (Int × Rat)
  | [], [] => []
  | (a, q) :: v, [] => nz a q ++ mg r v []
  | [], (b, p) :: w => nz b (r * p) ++ mg r [] w
  | (a, q) :: v, (b, p) :: w => if a < b then nz a q ++ mg r v ((b, p) :: w) else if b < a then nz b (r * p) ++ mg r ((a, q) :: v) w else nz a (q + r * p) ++ mg r v w
termination_by v w => v.length + w.length
theorem mg_nn (r : Rat) : mg r [] [] = [] := by rw [mg]
theorem mg_cn (r : Rat) (a : Int) (q : Rat) (v : List (Int × Rat)) : mg r ((a, q) :: v) [] = nz a q ++ mg r v [] := by rw [mg]
theorem mg_nc (r : Rat) (b : Int) (p : Rat) (w : List (Int × Rat)) : mg r [] ((b, p) :: w) = nz b (r * p) ++ mg r [] w := by rw [mg]
theorem mg_lt (r : Rat) (a : Int) (q : Rat) (v : List (Int × Rat)) (b : Int) (p : Rat) (w : List (Int × Rat)) (h : a < b) : mg r ((a, q) :: v) ((b, p) :: w) = nz a q ++ mg r v ((b, p) :: w) := by rw [mg, if_pos h]
theorem mg_gt (r : Rat) (a : Int) (q : Rat) (v : List (Int × Rat)) (b : Int) (p : Rat) (w : List (Int × Rat)) (h : b < a) : mg r ((a, q) :: v) ((b, p) :: w) = nz b (r * p) ++ mg r ((a, q) :: v) w := by rw [mg, if_neg (by omega), if_pos h]
theorem mg_eq (r : Rat) (a : Int) (q : Rat) (v : List (Int × Rat)) (p : Rat) (w : List (Int × Rat)) : mg r ((a, q) :: v) ((a, p) :: w) = nz a (q + r * p) ++ mg r v w := by rw [mg, if_neg (by omega), if_neg (by omega)]
theorem nz_len (a : Int) (q : Rat) : (nz a q).length ≤ 1 := by unfold nz; split <;> simp
theorem kCdn {w : World} {a : Addr} {v : Value} {q : Nat} (h : w.cell? a = some v) : (w.drewN q).cell? a = some v := h
theorem kBdn {w0 w : World} {q : Nat} (h : Below w0.heap.size w0 w) : Below w0.heap.size w0 (w.drewN q) := below_drewN h q
theorem kBdn2 {wB w : World} {q : Nat} (h : Below wB.heap.size wB w) : Below wB.heap.size wB (w.drewN q) := below_drewN h q
/-- The list that is being put together, with its values. -/
structure AcV (L base : Nat) (w : World) (Bv : Nat) (vs : List (Int × Rat)) : Prop where
  ex : ∃ l : List (Int × Nm), Ac base w Bv l ∧ l.length = vs.length ∧ ∀ (j : Nat) (z : Int) (t : Nm), l[j]? = some (z, t) → ∃ q : Rat, vs[j]? = some (z, q) ∧ Rn L w t.s t.x t.n t.c t.f t.y t.m t.d t.g q
theorem AcV.below {L base w w' Bv vs} (h : AcV L base w Bv vs) (hb : Below w.heap.size w w') : AcV L base w' Bv vs := by
  obtain ⟨l, h1, h2, h3⟩ := h.ex
  refine ⟨l, h1.below hb, h2, fun j z t hj => ?_⟩
  obtain ⟨q, e, h4⟩ := h3 j z t hj
  exact ⟨q, e, h4.below hb⟩
theorem AcV.drewN {L base w Bv vs} (h : AcV L base w Bv vs) (q : Nat) : AcV L base (w.drewN q) Bv vs := h.below (below_drewN (Below.refl _ _) q)
theorem Rn.zero_iff {L w s x n c f y m d g q} (h : Rn L w s x n c f y m d g q) : n = 0 ↔ q = 0 := by
  constructor
  · intro hn
    subst hn
    have := h.num.val
    rw [show wv s f 0 = 0 by cases s <;> rfl] at this
    exact Rat.num_eq_zero.1 this.symm
  · intro hq
    subst hq
    rcases Nat.eq_zero_or_pos n with h0 | h0
    · exact h0
    · have h1 := vf_pos h.num.lm h.num.fm h0
      have h2 := h.num.val
      cases s
      · rw [wv_false] at h2; simp at h2; omega
      · rw [wv_true] at h2; simp at h2; omega

set_option maxRecDepth 100000 in
/-- The putter, by values. -/
theorem putV_c {L base Bv : Nat} {w : World} {vs : List (Int × Rat)} {z : Int} {s : Bool} {x : Option Addr} {n c : Nat} {f : Nat → Int} {y : Option Addr} {m d : Nat} {g : Nat → Int} {q : Rat} (h : AcV L base w Bv vs) (hl : vs.length ≤ 100000) (hq : Rn L w s x n c f y m d g q) (hL : L ≤ 1048576) :
    Calls Tryz.prog 78 #[.int .i64 z, .agg #[.bool s, .slice x n c, .slice y m d], .pointer (some ⟨Bv, 0, none⟩)] w fun e w' => e = .returned (.tuple #[]) ∧ Below base w w' ∧ Ky w w' ∧ AcV L base w' Bv (vs ++ nz z q) := by
  obtain ⟨l, h1, h2, h3⟩ := h.ex
  have hn := hq.ln
  refine (put_c (f := f) (g := g) h1 (by omega) (by omega)).mono ?_
  rintro e w' ⟨he, hb, hk, hy, ha⟩
  refine ⟨he, hb, hy, ?_⟩
  by_cases hn0 : n = 0
  · rw [plusT_zero hn0] at ha
    rw [show nz z q = [] by unfold nz; rw [if_pos (hq.zero_iff.1 hn0)], List.append_nil]
    refine ⟨l, ha, h2, fun j z t hj => ?_⟩
    obtain ⟨q, e, h4⟩ := h3 j z t hj
    exact ⟨q, e, h4.kp hk⟩
  · rw [plusT_pos hn0] at ha
    rw [show nz z q = [(z, q)] by unfold nz; rw [if_neg (fun e => hn0 (hq.zero_iff.2 e))]]
    refine ⟨_, ha, by simp [h2], fun j z' t hj => ?_⟩
    by_cases hjl : j < l.length
    · rw [List.getElem?_append_left hjl] at hj
      obtain ⟨q', e, h4⟩ := h3 j z' t hj
      exact ⟨q', by rw [List.getElem?_append_left (by omega)]; exact e, h4.kp hk⟩
    · rw [List.getElem?_append_right (by omega)] at hj
      have hj0 : j - l.length = 0 := by
        rcases Nat.eq_zero_or_pos (j - l.length) with h0 | h0
        · exact h0
        · rw [List.getElem?_eq_none (by simp; omega)] at hj; cases hj
      rw [hj0] at hj
      simp at hj
      obtain ⟨rfl, rfl⟩ := hj
      refine ⟨q, ?_, hq.kp hk⟩
      rw [List.getElem?_append_right (by omega), show j - vs.length = 0 by omega]; rfl

set_option maxRecDepth 100000 in
set_option maxHeartbeats 8000000 in
theorem merge_c {L Bv : Nat} {wB w : World} {vs : List (Int × Rat)} {av aw : Option Addr} {cv cw : Nat} {v v' : List (Int × Rat)} {s : Bool} {x : Option Addr} {n c : Nat} {f : Nat → Int} {y : Option Addr} {m d : Nat} {g : Nat → Int} {r : Rat}
    (hB : Below wB.heap.size wB w) (hA : AcV (4 * L + 3) wB.heap.size w Bv vs) (hv : Tf L wB av v) (hw : Tf L wB aw v') (hr : Rn L wB s x n c f y m d g r) (hL : L ≤ 40000) (hcv : v.length ≤ cv ∧ cv ≤ 9223372036854775807) (hcw : v'.length ≤ cw ∧ cw ≤ 9223372036854775807) (hlen : vs.length + v.length + v'.length ≤ 100000) :
    Calls Tryz.prog 44 #[.func (.func 78) #[] #[.pointer (some ⟨Bv, 0, none⟩)], .slice av v.length cv, .agg #[.bool s, .slice x n c, .slice y m d], .slice aw v'.length cw] w fun e w' => e = .returned (.tuple #[]) ∧ Below wB.heap.size wB w' ∧ AcV (4 * L + 3) wB.heap.size w' Bv (vs ++ mg r v v') := by
  have HB := hid hB; have HA := hid hA; have HV := hid hv; have HW := hid hw; have HR := hid hr
  clear hB hA hv hw hr
  go_enter Tryz.func44, Tryz.ntmps44
  go_wp2_with fail
  have HBX : Hid ((w.alloc (.cells #[.bool s, .slice x n c, .slice y m d] 25)).heap[w.heap.size]? = some (.cells #[.bool s, .slice x n c, .slice y m d] 25 (0, 0))) := heap_alloc_new w _
  have HB0 := hid (HB.out.trans ((below_alloc (Below.refl w.heap.size w) (.cells #[.bool s, .slice x n c, .slice y m d] 25)).mono HB.out.size))
  have HA0 := hid (HA.out.below (below_alloc (Below.refl w.heap.size w) (.cells #[.bool s, .slice x n c, .slice y m d] 25)))
  clear HB HA
  go_loopw [1, 3] (fun a b wr => ∃ (av aw : Option Addr) (cv cw : Nat) (u u' us : List (Int × Rat)), a = .slice av u.length cv ∧ b = .slice aw u'.length cw ∧ (u.length ≤ cv ∧ cv ≤ 9223372036854775807) ∧ (u'.length ≤ cw ∧ cw ≤ 9223372036854775807) ∧ Hid (Tf L wB av u) ∧ Hid (Tf L wB aw u') ∧ Hid (Below wB.heap.size wB wr) ∧ Hid (wr.heap[w.heap.size]? = some (.cells #[.bool s, .slice x n c, .slice y m d] 25 (0, 0))) ∧ Hid (AcV (4 * L + 3) wB.heap.size wr Bv us) ∧ Hid (us ++ mg r u u' = vs ++ mg r v v') ∧ us.length + u.length + u'.length ≤ 100000) (fun a b _ => slen a + slen b)
  case atStart => exact ⟨av, aw, cv, cw, v, v', vs, rfl, rfl, hcv, hcw, HV, HW, HB0, HBX, HA0, rfl, hlen⟩
  case round =>
    clear HV HW HB0 HBX HA0
    obtain ⟨av, aw, cv, cw, u, u', us, rfl, rfl, ⟨hc1, hc2⟩, ⟨hc3, hc4⟩, HV, HW, HB, HBX, HA, HE, hlen2⟩ := hrel
    cases u with
    | nil =>
      cases u' with
      | nil =>
        go_wp2
        go_end0
        refine ⟨rfl, HB.out, ?_⟩
        rw [← HE.out]
        rw [mg_nn, List.append_nil]; exact HA.out
      | cons p' u' =>
        obtain ⟨a', q'⟩ := p'
        obtain ⟨b', o', ⟨ss, sx, sn, sc, sf, sy, sm, sd, sg⟩, rfl, hc', hq'⟩ := HW.out.head
        obtain ⟨p0, p1, p2, p3⟩ := hc'
        replace p0 : wB.cell? ⟨b', o', none⟩ = some (.int .i64 a') := p0
        replace p1 : wB.cell? ⟨b', o' + 1, none⟩ = some (.bool ss) := p1
        replace p2 : wB.cell? ⟨b', o' + 2, none⟩ = some (.slice sx sn sc) := p2
        replace p3 : wB.cell? ⟨b', o' + 3, none⟩ = some (.slice sy sm sd) := p3
        have y0 := kCb HB.out p0; have y1 := kCb HB.out p1; have y2 := kCb HB.out p2; have y3 := kCb HB.out p3
        replace hq' : Rn L wB ss sx sn sc sf sy sm sd sg q' := hq'
        have HQ' := hid hq'
        clear hq'
        have j2 : ((0 : Nat) : Int) < ((u'.length + 1 : Nat) : Int) := by omega
        have j4 : (((u'.length + 1 : Nat) : Int) == 0) = false := by simp; omega
        have j5 : (((u'.length : Nat) : Int) + 1 == 0) = false := by simp; omega
        replace hc3 : u'.length + 1 ≤ cw := hc3
        have r0 : wr.cell? ⟨w.heap.size, 0, none⟩ = some (.bool s) := by simp [World.cell?, HBX.out]
        have r1 : wr.cell? ⟨w.heap.size, 1, none⟩ = some (.slice x n c) := by simp [World.cell?, HBX.out]
        have r2 : wr.cell? ⟨w.heap.size, 2, none⟩ = some (.slice y m d) := by simp [World.cell?, HBX.out]
        have CM : Hid (∀ W, Below wr.heap.size wr W → Calls Tryz.prog 58 #[.agg #[.bool s, .slice x n c, .slice y m d], .agg #[.bool ss, .slice sx sn sc, .slice sy sm sd]] W fun e w' => ∃ s x n c f y m d g, e = .returned (.agg #[.bool s, .slice x n c, .slice y m d]) ∧ Below W.heap.size W w' ∧ Hid (Rn (2 * L + 1) w' s x n c f y m d g (r * q'))) := fun W hW =>
          vtimes_c (HR.out.below (HB.out.trans (hW.mono HB.out.size))) (HQ'.out.below (HB.out.trans (hW.mono HB.out.size))) (by omega)
        have CP : Hid (∀ (W : World) (s1 : Bool) (x1 : Option Addr) (n1 c1 : Nat) (f1 : Nat → Int) (y1 : Option Addr) (m1 d1 : Nat) (g1 : Nat → Int), Below wr.heap.size wr W → Rn (2 * L + 1) W s1 x1 n1 c1 f1 y1 m1 d1 g1 (r * q') → Calls Tryz.prog 78 #[.int .i64 a', .agg #[.bool s1, .slice x1 n1 c1, .slice y1 m1 d1], .pointer (some ⟨Bv, 0, none⟩)] W fun e w' => e = .returned (.tuple #[]) ∧ Below wB.heap.size wB w' ∧ Hid (Ky wr w') ∧ Hid (AcV (4 * L + 3) wB.heap.size w' Bv (us ++ nz a' (r * q')))) := fun W s1 x1 n1 c1 f1 y1 m1 d1 g1 hW hq =>
          (putV_c (HA.out.below hW) (by simp at hlen2; omega) (hq.mono (by omega)) (by omega)).mono (fun e w' ⟨h1, h2, h3, h4⟩ => ⟨h1, (HB.out.trans (hW.mono HB.out.size)).trans h2, (Ky.of_below hW).trans h3, h4⟩)
        have HM : Hid ((us ++ nz a' (r * q')) ++ mg r [] u' = vs ++ mg r v v') := by show _ = _; rw [← HE.out, mg_nc, List.append_assoc]
        have hl3 : us.length + (nz a' (r * q')).length + ([] : List (Int × Rat)).length + (u' : List (Int × Rat)).length ≤ 100000 := by have := nz_len a' (r * q'); simp at hlen2 ⊢; omega
        have HU2 := hid HW.out.tail
        have hg0 : decide ((0 : Int) < 0) = false := by decide
        have hg1 : decide (((0 : Nat) : Int) < 0) = false := by decide
        have hg2 : decide ((0 : Int) < ((([] : List (Int × Rat)).length : Nat) : Int)) = false := by decide
        have hg3 : ((0 : Int) == 0) = true := by decide
        go_wp2
        go_quiet (fail)
        go_wp2
        go_quiet (fail)
        go_wp2
        go_region_held3 (fun w' => w'.cell? ⟨b', o', none⟩ = some (.int .i64 a') ∧ w'.cell? ⟨b', o' + 1, none⟩ = some (.bool ss) ∧ w'.cell? ⟨b', o' + 2, none⟩ = some (.slice sx sn sc) ∧ w'.cell? ⟨b', o' + 3, none⟩ = some (.slice sy sm sd) ∧ w'.cell? ⟨w.heap.size, 0, none⟩ = some (.bool s) ∧ w'.cell? ⟨w.heap.size, 1, none⟩ = some (.slice x n c) ∧ w'.cell? ⟨w.heap.size, 2, none⟩ = some (.slice y m d))
          (refine ⟨?_, ?_, ?_, ?_, ?_, ?_, ?_⟩ <;> repeat (with_reducible first | assumption | refine kCdn ?_ | refine kCd ?_ | refine kCa ?_ | refine kCb (by assumption) ?_))
          (first
            | (go_at_call 58; with_reducible refine (CM.out _ (by repeat (with_reducible first | assumption | exact Below.refl _ _ | refine kBdn ?_ | refine Below.drew ?_ | refine kBa ?_ | refine kBb (by assumption) ?_))).mono ?_; rintro e w5 ⟨sp, xp, np, cp, fp, yp, mp, dp, gp, rfl, hb5, HP⟩)
            | (go_at_call 78; with_reducible refine (CP.out _ sp xp np cp fp yp mp dp gp (by repeat (with_reducible first | assumption | exact Below.refl _ _ | refine kBdn ?_ | refine Below.drew ?_ | refine kBa ?_ | refine kBb (by assumption) ?_)) HP.out).mono ?_; rintro e w6 ⟨rfl, hb6, HY6, HA6⟩; have hbx6 := HY6.out.keep HBX.out (by decide) (by decide); have r60 : w6.cell? ⟨w.heap.size, 0, none⟩ = some (.bool s) := (by simp [World.cell?, hbx6]); have r61 : w6.cell? ⟨w.heap.size, 1, none⟩ = some (.slice x n c) := (by simp [World.cell?, hbx6]); have r62 : w6.cell? ⟨w.heap.size, 2, none⟩ = some (.slice y m d) := (by simp [World.cell?, hbx6])))
        have HFX := hid (HY6.out.keep HBX.out (by decide) (by decide))
        have HFB := hid hb6; have HFA := HA6
        by_cases hcw1 : cw = 1
        · obtain rfl : u' = [] := List.eq_nil_of_length_eq_zero (by omega)
          subst hcw1
          go_wp2
          go_roundw
          case rel =>
            refine ⟨av, some ⟨b', o', none⟩, cv, 0, [], [], us ++ nz a' (r * q'), rfl, rfl, ?_, ?_, Tf.nil _ _ _, Tf.nil _ _ _, HFB.out, HFX.out, HFA.out, HM.out, ?_⟩
            · simp <;> omega
            · simp <;> omega
            · simp at hl3 ⊢ <;> omega
          case measure => simp [slen] <;> omega
        · have hz : 0 < cw := by omega
          go_wp2
          go_roundw
          case rel =>
            refine ⟨av, some ⟨b', o' + 4, none⟩, cv, cw - 1, [], u', us ++ nz a' (r * q'), rfl, rfl, ?_, ?_, Tf.nil _ _ _, HU2.out, HFB.out, HFX.out, HFA.out, HM.out, ?_⟩
            · simp <;> omega
            · simp <;> omega
            · simp at hl3 ⊢ <;> omega
          case measure => simp [slen] <;> omega
    | cons p u =>
      cases u' with
      | nil =>
        obtain ⟨a, q⟩ := p
        obtain ⟨b, o, ⟨ts, tx, tn, tc, tf, ty, tm, td, tg⟩, rfl, hc, hq⟩ := HV.out.head
        obtain ⟨o0, o1, o2, o3⟩ := hc
        replace o0 : wB.cell? ⟨b, o, none⟩ = some (.int .i64 a) := o0
        replace o1 : wB.cell? ⟨b, o + 1, none⟩ = some (.bool ts) := o1
        replace o2 : wB.cell? ⟨b, o + 2, none⟩ = some (.slice tx tn tc) := o2
        replace o3 : wB.cell? ⟨b, o + 3, none⟩ = some (.slice ty tm td) := o3
        have x0 := kCb HB.out o0; have x1 := kCb HB.out o1; have x2 := kCb HB.out o2; have x3 := kCb HB.out o3
        replace hq : Rn L wB ts tx tn tc tf ty tm td tg q := hq
        have HQ := hid hq
        clear hq
        have j1 : ((0 : Nat) : Int) < ((u.length + 1 : Nat) : Int) := by omega
        have j3 : (((u.length + 1 : Nat) : Int) == 0) = false := by simp; omega
        replace hc1 : u.length + 1 ≤ cv := hc1
        have CC : Hid (∀ W, Below wr.heap.size wr W → Calls Tryz.prog 51 #[.agg #[.bool ts, .slice tx tn tc, .slice ty tm td]] W fun e w' => ∃ x c y d, e = .returned (.agg #[.bool ts, .slice x tn c, .slice y tm d]) ∧ Below W.heap.size W w' ∧ Hid (Rn L w' ts x tn c tf y tm d tg q)) := fun W hW =>
          rCopy_n (HQ.out.below (HB.out.trans (hW.mono HB.out.size))) (by omega)
        have CP : Hid (∀ (W : World) (s1 : Bool) (x1 : Option Addr) (n1 c1 : Nat) (f1 : Nat → Int) (y1 : Option Addr) (m1 d1 : Nat) (g1 : Nat → Int), Below wr.heap.size wr W → Rn (L) W s1 x1 n1 c1 f1 y1 m1 d1 g1 (q) → Calls Tryz.prog 78 #[.int .i64 a, .agg #[.bool s1, .slice x1 n1 c1, .slice y1 m1 d1], .pointer (some ⟨Bv, 0, none⟩)] W fun e w' => e = .returned (.tuple #[]) ∧ Below wB.heap.size wB w' ∧ Hid (Ky wr w') ∧ Hid (AcV (4 * L + 3) wB.heap.size w' Bv (us ++ nz a (q)))) := fun W s1 x1 n1 c1 f1 y1 m1 d1 g1 hW hq =>
          (putV_c (HA.out.below hW) (by simp at hlen2; omega) (hq.mono (by omega)) (by omega)).mono (fun e w' ⟨h1, h2, h3, h4⟩ => ⟨h1, (HB.out.trans (hW.mono HB.out.size)).trans h2, (Ky.of_below hW).trans h3, h4⟩)
        have HM : Hid ((us ++ nz a (q)) ++ mg r u [] = vs ++ mg r v v') := by show _ = _; rw [← HE.out, mg_cn, List.append_assoc]
        have hl3 : us.length + (nz a (q)).length + (u : List (Int × Rat)).length + ([] : List (Int × Rat)).length ≤ 100000 := by have := nz_len a (q); simp at hlen2 ⊢; omega
        have HU := hid HV.out.tail
        go_wp2
        go_quiet (fail)
        go_wp2
        go_region_held3 (fun w' => w'.cell? ⟨b, o, none⟩ = some (.int .i64 a) ∧ w'.cell? ⟨b, o + 1, none⟩ = some (.bool ts) ∧ w'.cell? ⟨b, o + 2, none⟩ = some (.slice tx tn tc) ∧ w'.cell? ⟨b, o + 3, none⟩ = some (.slice ty tm td))
          (refine ⟨?_, ?_, ?_, ?_⟩ <;> repeat (with_reducible first | assumption | refine kCdn ?_ | refine kCd ?_ | refine kCa ?_ | refine kCb (by assumption) ?_))
          (first
            | (go_at_call 51; with_reducible refine (CC.out _ (by repeat (with_reducible first | assumption | exact Below.refl _ _ | refine kBdn ?_ | refine Below.drew ?_ | refine kBa ?_ | refine kBb (by assumption) ?_))).mono ?_; rintro e w5 ⟨xp, cp, yp, dp, rfl, hb5, HP⟩)
            | (go_at_call 78; with_reducible refine (CP.out _ ts xp tn cp tf yp tm dp tg (by repeat (with_reducible first | assumption | exact Below.refl _ _ | refine kBdn ?_ | refine Below.drew ?_ | refine kBa ?_ | refine kBb (by assumption) ?_)) HP.out).mono ?_; rintro e w6 ⟨rfl, hb6, HY6, HA6⟩))
        have HFX := hid (HY6.out.keep HBX.out (by decide) (by decide))
        have HFB := hid hb6; have HFA := HA6
        by_cases hcv1 : cv = 1
        · obtain rfl : u = [] := List.eq_nil_of_length_eq_zero (by omega)
          subst hcv1
          go_wp2
          go_roundw
          case rel =>
            refine ⟨some ⟨b, o, none⟩, aw, 0, cw, [], [], us ++ nz a (q), rfl, rfl, ?_, ?_, Tf.nil _ _ _, Tf.nil _ _ _, HFB.out, HFX.out, HFA.out, HM.out, ?_⟩
            · simp <;> omega
            · simp <;> omega
            · simp at hl3 ⊢ <;> omega
          case measure => simp [slen] <;> omega
        · have hz : 0 < cv := by omega
          go_wp2
          go_roundw
          case rel =>
            refine ⟨some ⟨b, o + 4, none⟩, aw, cv - 1, cw, u, [], us ++ nz a (q), rfl, rfl, ?_, ?_, HU.out, Tf.nil _ _ _, HFB.out, HFX.out, HFA.out, HM.out, ?_⟩
            · simp <;> omega
            · simp <;> omega
            · simp at hl3 ⊢ <;> omega
          case measure => simp [slen] <;> omega
      | cons p' u' =>
        rcases Int.lt_trichotomy p.1 p'.1 with hab | hab | hab
        · skip
          obtain ⟨a, q⟩ := p
          obtain ⟨b, o, ⟨ts, tx, tn, tc, tf, ty, tm, td, tg⟩, rfl, hc, hq⟩ := HV.out.head
          obtain ⟨o0, o1, o2, o3⟩ := hc
          replace o0 : wB.cell? ⟨b, o, none⟩ = some (.int .i64 a) := o0
          replace o1 : wB.cell? ⟨b, o + 1, none⟩ = some (.bool ts) := o1
          replace o2 : wB.cell? ⟨b, o + 2, none⟩ = some (.slice tx tn tc) := o2
          replace o3 : wB.cell? ⟨b, o + 3, none⟩ = some (.slice ty tm td) := o3
          have x0 := kCb HB.out o0; have x1 := kCb HB.out o1; have x2 := kCb HB.out o2; have x3 := kCb HB.out o3
          replace hq : Rn L wB ts tx tn tc tf ty tm td tg q := hq
          have HQ := hid hq
          clear hq
          have j1 : ((0 : Nat) : Int) < ((u.length + 1 : Nat) : Int) := by omega
          have j3 : (((u.length + 1 : Nat) : Int) == 0) = false := by simp; omega
          replace hc1 : u.length + 1 ≤ cv := hc1
          obtain ⟨a', q'⟩ := p'
          obtain ⟨b', o', ⟨ss, sx, sn, sc, sf, sy, sm, sd, sg⟩, rfl, hc', hq'⟩ := HW.out.head
          obtain ⟨p0, p1, p2, p3⟩ := hc'
          replace p0 : wB.cell? ⟨b', o', none⟩ = some (.int .i64 a') := p0
          replace p1 : wB.cell? ⟨b', o' + 1, none⟩ = some (.bool ss) := p1
          replace p2 : wB.cell? ⟨b', o' + 2, none⟩ = some (.slice sx sn sc) := p2
          replace p3 : wB.cell? ⟨b', o' + 3, none⟩ = some (.slice sy sm sd) := p3
          have y0 := kCb HB.out p0; have y1 := kCb HB.out p1; have y2 := kCb HB.out p2; have y3 := kCb HB.out p3
          replace hq' : Rn L wB ss sx sn sc sf sy sm sd sg q' := hq'
          have HQ' := hid hq'
          clear hq'
          have j2 : ((0 : Nat) : Int) < ((u'.length + 1 : Nat) : Int) := by omega
          have j4 : (((u'.length + 1 : Nat) : Int) == 0) = false := by simp; omega
          have j5 : (((u'.length : Nat) : Int) + 1 == 0) = false := by simp; omega
          replace hc3 : u'.length + 1 ≤ cw := hc3
          replace hab : a < a' := hab
          have CC : Hid (∀ W, Below wr.heap.size wr W → Calls Tryz.prog 51 #[.agg #[.bool ts, .slice tx tn tc, .slice ty tm td]] W fun e w' => ∃ x c y d, e = .returned (.agg #[.bool ts, .slice x tn c, .slice y tm d]) ∧ Below W.heap.size W w' ∧ Hid (Rn L w' ts x tn c tf y tm d tg q)) := fun W hW =>
            rCopy_n (HQ.out.below (HB.out.trans (hW.mono HB.out.size))) (by omega)
          have CP : Hid (∀ (W : World) (s1 : Bool) (x1 : Option Addr) (n1 c1 : Nat) (f1 : Nat → Int) (y1 : Option Addr) (m1 d1 : Nat) (g1 : Nat → Int), Below wr.heap.size wr W → Rn (L) W s1 x1 n1 c1 f1 y1 m1 d1 g1 (q) → Calls Tryz.prog 78 #[.int .i64 a, .agg #[.bool s1, .slice x1 n1 c1, .slice y1 m1 d1], .pointer (some ⟨Bv, 0, none⟩)] W fun e w' => e = .returned (.tuple #[]) ∧ Below wB.heap.size wB w' ∧ Hid (Ky wr w') ∧ Hid (AcV (4 * L + 3) wB.heap.size w' Bv (us ++ nz a (q)))) := fun W s1 x1 n1 c1 f1 y1 m1 d1 g1 hW hq =>
            (putV_c (HA.out.below hW) (by simp at hlen2; omega) (hq.mono (by omega)) (by omega)).mono (fun e w' ⟨h1, h2, h3, h4⟩ => ⟨h1, (HB.out.trans (hW.mono HB.out.size)).trans h2, (Ky.of_below hW).trans h3, h4⟩)
          have HM : Hid ((us ++ nz a (q)) ++ mg r u ((a', q') :: u') = vs ++ mg r v v') := by show _ = _; rw [← HE.out, mg_lt _ _ _ _ _ _ _ hab, List.append_assoc]
          have hl3 : us.length + (nz a (q)).length + (u : List (Int × Rat)).length + (((a', q') :: u') : List (Int × Rat)).length ≤ 100000 := by have := nz_len a (q); simp at hlen2 ⊢; omega
          have HU := hid HV.out.tail
          go_wp2
          go_quiet (fail)
          go_wp2
          go_region_held3 (fun w' => w'.cell? ⟨b, o, none⟩ = some (.int .i64 a) ∧ w'.cell? ⟨b, o + 1, none⟩ = some (.bool ts) ∧ w'.cell? ⟨b, o + 2, none⟩ = some (.slice tx tn tc) ∧ w'.cell? ⟨b, o + 3, none⟩ = some (.slice ty tm td))
            (refine ⟨?_, ?_, ?_, ?_⟩ <;> repeat (with_reducible first | assumption | refine kCdn ?_ | refine kCd ?_ | refine kCa ?_ | refine kCb (by assumption) ?_))
            (first
              | (go_at_call 51; with_reducible refine (CC.out _ (by repeat (with_reducible first | assumption | exact Below.refl _ _ | refine kBdn ?_ | refine Below.drew ?_ | refine kBa ?_ | refine kBb (by assumption) ?_))).mono ?_; rintro e w5 ⟨xp, cp, yp, dp, rfl, hb5, HP⟩)
              | (go_at_call 78; with_reducible refine (CP.out _ ts xp tn cp tf yp tm dp tg (by repeat (with_reducible first | assumption | exact Below.refl _ _ | refine kBdn ?_ | refine Below.drew ?_ | refine kBa ?_ | refine kBb (by assumption) ?_)) HP.out).mono ?_; rintro e w6 ⟨rfl, hb6, HY6, HA6⟩))
          have HFX := hid (HY6.out.keep HBX.out (by decide) (by decide))
          have HFB := hid hb6; have HFA := HA6
          by_cases hcv1 : cv = 1
          · obtain rfl : u = [] := List.eq_nil_of_length_eq_zero (by omega)
            subst hcv1
            go_wp2
            go_roundw
            case rel =>
              refine ⟨some ⟨b, o, none⟩, some ⟨b', o', none⟩, 0, cw, [], ((a', q') :: u'), us ++ nz a (q), rfl, rfl, ?_, ?_, Tf.nil _ _ _, HW.out, HFB.out, HFX.out, HFA.out, HM.out, ?_⟩
              · simp <;> omega
              · simp <;> omega
              · simp at hl3 ⊢ <;> omega
            case measure => simp [slen] <;> omega
          · have hz : 0 < cv := by omega
            go_wp2
            go_roundw
            case rel =>
              refine ⟨some ⟨b, o + 4, none⟩, some ⟨b', o', none⟩, cv - 1, cw, u, ((a', q') :: u'), us ++ nz a (q), rfl, rfl, ?_, ?_, HU.out, HW.out, HFB.out, HFX.out, HFA.out, HM.out, ?_⟩
              · simp <;> omega
              · simp <;> omega
              · simp at hl3 ⊢ <;> omega
            case measure => simp [slen] <;> omega
        · skip
          obtain ⟨a, q⟩ := p
          obtain ⟨b, o, ⟨ts, tx, tn, tc, tf, ty, tm, td, tg⟩, rfl, hc, hq⟩ := HV.out.head
          obtain ⟨o0, o1, o2, o3⟩ := hc
          replace o0 : wB.cell? ⟨b, o, none⟩ = some (.int .i64 a) := o0
          replace o1 : wB.cell? ⟨b, o + 1, none⟩ = some (.bool ts) := o1
          replace o2 : wB.cell? ⟨b, o + 2, none⟩ = some (.slice tx tn tc) := o2
          replace o3 : wB.cell? ⟨b, o + 3, none⟩ = some (.slice ty tm td) := o3
          have x0 := kCb HB.out o0; have x1 := kCb HB.out o1; have x2 := kCb HB.out o2; have x3 := kCb HB.out o3
          replace hq : Rn L wB ts tx tn tc tf ty tm td tg q := hq
          have HQ := hid hq
          clear hq
          have j1 : ((0 : Nat) : Int) < ((u.length + 1 : Nat) : Int) := by omega
          have j3 : (((u.length + 1 : Nat) : Int) == 0) = false := by simp; omega
          replace hc1 : u.length + 1 ≤ cv := hc1
          obtain ⟨a', q'⟩ := p'
          obtain ⟨b', o', ⟨ss, sx, sn, sc, sf, sy, sm, sd, sg⟩, rfl, hc', hq'⟩ := HW.out.head
          obtain ⟨p0, p1, p2, p3⟩ := hc'
          replace p0 : wB.cell? ⟨b', o', none⟩ = some (.int .i64 a') := p0
          replace p1 : wB.cell? ⟨b', o' + 1, none⟩ = some (.bool ss) := p1
          replace p2 : wB.cell? ⟨b', o' + 2, none⟩ = some (.slice sx sn sc) := p2
          replace p3 : wB.cell? ⟨b', o' + 3, none⟩ = some (.slice sy sm sd) := p3
          have y0 := kCb HB.out p0; have y1 := kCb HB.out p1; have y2 := kCb HB.out p2; have y3 := kCb HB.out p3
          replace hq' : Rn L wB ss sx sn sc sf sy sm sd sg q' := hq'
          have HQ' := hid hq'
          clear hq'
          have j2 : ((0 : Nat) : Int) < ((u'.length + 1 : Nat) : Int) := by omega
          have j4 : (((u'.length + 1 : Nat) : Int) == 0) = false := by simp; omega
          have j5 : (((u'.length : Nat) : Int) + 1 == 0) = false := by simp; omega
          replace hc3 : u'.length + 1 ≤ cw := hc3
          replace hab : a' = a := hab.symm
          subst hab
          have r0 : wr.cell? ⟨w.heap.size, 0, none⟩ = some (.bool s) := by simp [World.cell?, HBX.out]
          have r1 : wr.cell? ⟨w.heap.size, 1, none⟩ = some (.slice x n c) := by simp [World.cell?, HBX.out]
          have r2 : wr.cell? ⟨w.heap.size, 2, none⟩ = some (.slice y m d) := by simp [World.cell?, HBX.out]
          have CM : Hid (∀ W, Below wr.heap.size wr W → Calls Tryz.prog 58 #[.agg #[.bool s, .slice x n c, .slice y m d], .agg #[.bool ss, .slice sx sn sc, .slice sy sm sd]] W fun e w' => ∃ s x n c f y m d g, e = .returned (.agg #[.bool s, .slice x n c, .slice y m d]) ∧ Below W.heap.size W w' ∧ Hid (Rn (2 * L + 1) w' s x n c f y m d g (r * q'))) := fun W hW =>
            vtimes_c (HR.out.below (HB.out.trans (hW.mono HB.out.size))) (HQ'.out.below (HB.out.trans (hW.mono HB.out.size))) (by omega)
          have CQ : Hid (∀ (W : World) (s1 : Bool) (x1 : Option Addr) (n1 c1 : Nat) (f1 : Nat → Int) (y1 : Option Addr) (m1 d1 : Nat) (g1 : Nat → Int), Below wr.heap.size wr W → Rn (2 * L + 1) W s1 x1 n1 c1 f1 y1 m1 d1 g1 (r * q') → Calls Tryz.prog 57 #[.agg #[.bool ts, .slice tx tn tc, .slice ty tm td], .agg #[.bool s1, .slice x1 n1 c1, .slice y1 m1 d1]] W fun e w' => ∃ s x n c f y m d g, e = .returned (.agg #[.bool s, .slice x n c, .slice y m d]) ∧ Below W.heap.size W w' ∧ Hid (Rn (2 * (2 * L + 1) + 1) w' s x n c f y m d g (q + r * q'))) := fun W s1 x1 n1 c1 f1 y1 m1 d1 g1 hW hq =>
            vplus_c ((HQ.out.below (HB.out.trans (hW.mono HB.out.size))).mono (by omega)) hq (by omega)
          have CP : Hid (∀ (W : World) (s1 : Bool) (x1 : Option Addr) (n1 c1 : Nat) (f1 : Nat → Int) (y1 : Option Addr) (m1 d1 : Nat) (g1 : Nat → Int), Below wr.heap.size wr W → Rn (2 * (2 * L + 1) + 1) W s1 x1 n1 c1 f1 y1 m1 d1 g1 (q + r * q') → Calls Tryz.prog 78 #[.int .i64 a', .agg #[.bool s1, .slice x1 n1 c1, .slice y1 m1 d1], .pointer (some ⟨Bv, 0, none⟩)] W fun e w' => e = .returned (.tuple #[]) ∧ Below wB.heap.size wB w' ∧ Hid (Ky wr w') ∧ Hid (AcV (4 * L + 3) wB.heap.size w' Bv (us ++ nz a' (q + r * q')))) := fun W s1 x1 n1 c1 f1 y1 m1 d1 g1 hW hq =>
            (putV_c (HA.out.below hW) (by simp at hlen2; omega) (hq.mono (by omega)) (by omega)).mono (fun e w' ⟨h1, h2, h3, h4⟩ => ⟨h1, (HB.out.trans (hW.mono HB.out.size)).trans h2, (Ky.of_below hW).trans h3, h4⟩)
          have HM : Hid ((us ++ nz a' (q + r * q')) ++ mg r u u' = vs ++ mg r v v') := by show _ = _; rw [← HE.out, mg_eq, List.append_assoc]
          have hl3 : us.length + (nz a' (q + r * q')).length + (u : List (Int × Rat)).length + (u' : List (Int × Rat)).length ≤ 100000 := by have := nz_len a' (q + r * q'); simp at hlen2 ⊢; omega
          have HU := hid HV.out.tail
          have HU2 := hid HW.out.tail
          go_wp2
          go_quiet (fail)
          go_wp2
          go_quiet (fail)
          go_wp2
          go_region_held3 (fun w' => w'.cell? ⟨b, o, none⟩ = some (.int .i64 a') ∧ w'.cell? ⟨b, o + 1, none⟩ = some (.bool ts) ∧ w'.cell? ⟨b, o + 2, none⟩ = some (.slice tx tn tc) ∧ w'.cell? ⟨b, o + 3, none⟩ = some (.slice ty tm td) ∧ w'.cell? ⟨b', o', none⟩ = some (.int .i64 a') ∧ w'.cell? ⟨b', o' + 1, none⟩ = some (.bool ss) ∧ w'.cell? ⟨b', o' + 2, none⟩ = some (.slice sx sn sc) ∧ w'.cell? ⟨b', o' + 3, none⟩ = some (.slice sy sm sd) ∧ w'.cell? ⟨w.heap.size, 0, none⟩ = some (.bool s) ∧ w'.cell? ⟨w.heap.size, 1, none⟩ = some (.slice x n c) ∧ w'.cell? ⟨w.heap.size, 2, none⟩ = some (.slice y m d))
            (refine ⟨?_, ?_, ?_, ?_, ?_, ?_, ?_, ?_, ?_, ?_, ?_⟩ <;> repeat (with_reducible first | assumption | refine kCdn ?_ | refine kCd ?_ | refine kCa ?_ | refine kCb (by assumption) ?_))
            (first
              | (go_at_call 58; with_reducible refine (CM.out _ (by repeat (with_reducible first | assumption | exact Below.refl _ _ | refine kBdn ?_ | refine Below.drew ?_ | refine kBa ?_ | refine kBb (by assumption) ?_))).mono ?_; rintro e w5 ⟨sp, xp, np, cp, fp, yp, mp, dp, gp, rfl, hb5, HP⟩)
              | (go_at_call 57; with_reducible refine (CQ.out _ sp xp np cp fp yp mp dp gp (by repeat (with_reducible first | assumption | exact Below.refl _ _ | refine kBdn ?_ | refine Below.drew ?_ | refine kBa ?_ | refine kBb (by assumption) ?_)) HP.out).mono ?_; rintro e w7 ⟨sq, xq, nq1, cq, fq, yq, mq, dq, gq, rfl, hb7, HP2⟩)
              | (go_at_call 78; with_reducible refine (CP.out _ sq xq nq1 cq fq yq mq dq gq (by repeat (with_reducible first | assumption | exact Below.refl _ _ | refine kBdn ?_ | refine Below.drew ?_ | refine kBa ?_ | refine kBb (by assumption) ?_)) HP2.out).mono ?_; rintro e w6 ⟨rfl, hb6, HY6, HA6⟩; have hbx6 := HY6.out.keep HBX.out (by decide) (by decide); have r60 : w6.cell? ⟨w.heap.size, 0, none⟩ = some (.bool s) := (by simp [World.cell?, hbx6]); have r61 : w6.cell? ⟨w.heap.size, 1, none⟩ = some (.slice x n c) := (by simp [World.cell?, hbx6]); have r62 : w6.cell? ⟨w.heap.size, 2, none⟩ = some (.slice y m d) := (by simp [World.cell?, hbx6])))
          have HFX := hid (HY6.out.keep HBX.out (by decide) (by decide))
          have HFB := hid hb6; have HFA := HA6
          by_cases hcv1 : cv = 1
          · obtain rfl : u = [] := List.eq_nil_of_length_eq_zero (by omega)
            subst hcv1
            by_cases hcw1 : cw = 1
            · obtain rfl : u' = [] := List.eq_nil_of_length_eq_zero (by omega)
              subst hcw1
              go_wp2
              go_quiet (fail)
              go_wp2
              have HGB := hid (kBdn2 (q := nq) HFB.out); have HGA := hid (HFA.out.drewN nq)
              go_roundw
              case rel =>
                refine ⟨some ⟨b, o, none⟩, some ⟨b', o', none⟩, 0, 0, [], [], us ++ nz a' (q + r * q'), rfl, rfl, ?_, ?_, Tf.nil _ _ _, Tf.nil _ _ _, HGB.out, HFX.out, HGA.out, HM.out, ?_⟩
                · simp <;> omega
                · simp <;> omega
                · simp at hl3 ⊢ <;> omega
              case measure => simp [slen] <;> omega
            · have hz : 0 < cw := by omega
              go_wp2
              go_quiet (fail)
              go_wp2
              have HGB := hid (kBdn2 (q := nq) HFB.out); have HGA := hid (HFA.out.drewN nq)
              go_roundw
              case rel =>
                refine ⟨some ⟨b, o, none⟩, some ⟨b', o' + 4, none⟩, 0, cw - 1, [], u', us ++ nz a' (q + r * q'), rfl, rfl, ?_, ?_, Tf.nil _ _ _, HU2.out, HGB.out, HFX.out, HGA.out, HM.out, ?_⟩
                · simp <;> omega
                · simp <;> omega
                · simp at hl3 ⊢ <;> omega
              case measure => simp [slen] <;> omega
          · have hz : 0 < cv := by omega
            by_cases hcw1 : cw = 1
            · obtain rfl : u' = [] := List.eq_nil_of_length_eq_zero (by omega)
              subst hcw1
              go_wp2
              go_quiet (fail)
              go_wp2
              have HGB := hid (kBdn2 (q := nq) HFB.out); have HGA := hid (HFA.out.drewN nq)
              go_roundw
              case rel =>
                refine ⟨some ⟨b, o + 4, none⟩, some ⟨b', o', none⟩, cv - 1, 0, u, [], us ++ nz a' (q + r * q'), rfl, rfl, ?_, ?_, HU.out, Tf.nil _ _ _, HGB.out, HFX.out, HGA.out, HM.out, ?_⟩
                · simp <;> omega
                · simp <;> omega
                · simp at hl3 ⊢ <;> omega
              case measure => simp [slen] <;> omega
            · have hz : 0 < cw := by omega
              go_wp2
              go_quiet (fail)
              go_wp2
              have HGB := hid (kBdn2 (q := nq) HFB.out); have HGA := hid (HFA.out.drewN nq)
              go_roundw
              case rel =>
                refine ⟨some ⟨b, o + 4, none⟩, some ⟨b', o' + 4, none⟩, cv - 1, cw - 1, u, u', us ++ nz a' (q + r * q'), rfl, rfl, ?_, ?_, HU.out, HU2.out, HGB.out, HFX.out, HGA.out, HM.out, ?_⟩
                · simp <;> omega
                · simp <;> omega
                · simp at hl3 ⊢ <;> omega
              case measure => simp [slen] <;> omega
        · skip
          obtain ⟨a, q⟩ := p
          obtain ⟨b, o, ⟨ts, tx, tn, tc, tf, ty, tm, td, tg⟩, rfl, hc, hq⟩ := HV.out.head
          obtain ⟨o0, o1, o2, o3⟩ := hc
          replace o0 : wB.cell? ⟨b, o, none⟩ = some (.int .i64 a) := o0
          replace o1 : wB.cell? ⟨b, o + 1, none⟩ = some (.bool ts) := o1
          replace o2 : wB.cell? ⟨b, o + 2, none⟩ = some (.slice tx tn tc) := o2
          replace o3 : wB.cell? ⟨b, o + 3, none⟩ = some (.slice ty tm td) := o3
          have x0 := kCb HB.out o0; have x1 := kCb HB.out o1; have x2 := kCb HB.out o2; have x3 := kCb HB.out o3
          replace hq : Rn L wB ts tx tn tc tf ty tm td tg q := hq
          have HQ := hid hq
          clear hq
          have j1 : ((0 : Nat) : Int) < ((u.length + 1 : Nat) : Int) := by omega
          have j3 : (((u.length + 1 : Nat) : Int) == 0) = false := by simp; omega
          replace hc1 : u.length + 1 ≤ cv := hc1
          obtain ⟨a', q'⟩ := p'
          obtain ⟨b', o', ⟨ss, sx, sn, sc, sf, sy, sm, sd, sg⟩, rfl, hc', hq'⟩ := HW.out.head
          obtain ⟨p0, p1, p2, p3⟩ := hc'
          replace p0 : wB.cell? ⟨b', o', none⟩ = some (.int .i64 a') := p0
          replace p1 : wB.cell? ⟨b', o' + 1, none⟩ = some (.bool ss) := p1
          replace p2 : wB.cell? ⟨b', o' + 2, none⟩ = some (.slice sx sn sc) := p2
          replace p3 : wB.cell? ⟨b', o' + 3, none⟩ = some (.slice sy sm sd) := p3
          have y0 := kCb HB.out p0; have y1 := kCb HB.out p1; have y2 := kCb HB.out p2; have y3 := kCb HB.out p3
          replace hq' : Rn L wB ss sx sn sc sf sy sm sd sg q' := hq'
          have HQ' := hid hq'
          clear hq'
          have j2 : ((0 : Nat) : Int) < ((u'.length + 1 : Nat) : Int) := by omega
          have j4 : (((u'.length + 1 : Nat) : Int) == 0) = false := by simp; omega
          have j5 : (((u'.length : Nat) : Int) + 1 == 0) = false := by simp; omega
          replace hc3 : u'.length + 1 ≤ cw := hc3
          replace hab : a' < a := hab
          have r0 : wr.cell? ⟨w.heap.size, 0, none⟩ = some (.bool s) := by simp [World.cell?, HBX.out]
          have r1 : wr.cell? ⟨w.heap.size, 1, none⟩ = some (.slice x n c) := by simp [World.cell?, HBX.out]
          have r2 : wr.cell? ⟨w.heap.size, 2, none⟩ = some (.slice y m d) := by simp [World.cell?, HBX.out]
          have CM : Hid (∀ W, Below wr.heap.size wr W → Calls Tryz.prog 58 #[.agg #[.bool s, .slice x n c, .slice y m d], .agg #[.bool ss, .slice sx sn sc, .slice sy sm sd]] W fun e w' => ∃ s x n c f y m d g, e = .returned (.agg #[.bool s, .slice x n c, .slice y m d]) ∧ Below W.heap.size W w' ∧ Hid (Rn (2 * L + 1) w' s x n c f y m d g (r * q'))) := fun W hW =>
            vtimes_c (HR.out.below (HB.out.trans (hW.mono HB.out.size))) (HQ'.out.below (HB.out.trans (hW.mono HB.out.size))) (by omega)
          have CP : Hid (∀ (W : World) (s1 : Bool) (x1 : Option Addr) (n1 c1 : Nat) (f1 : Nat → Int) (y1 : Option Addr) (m1 d1 : Nat) (g1 : Nat → Int), Below wr.heap.size wr W → Rn (2 * L + 1) W s1 x1 n1 c1 f1 y1 m1 d1 g1 (r * q') → Calls Tryz.prog 78 #[.int .i64 a', .agg #[.bool s1, .slice x1 n1 c1, .slice y1 m1 d1], .pointer (some ⟨Bv, 0, none⟩)] W fun e w' => e = .returned (.tuple #[]) ∧ Below wB.heap.size wB w' ∧ Hid (Ky wr w') ∧ Hid (AcV (4 * L + 3) wB.heap.size w' Bv (us ++ nz a' (r * q')))) := fun W s1 x1 n1 c1 f1 y1 m1 d1 g1 hW hq =>
            (putV_c (HA.out.below hW) (by simp at hlen2; omega) (hq.mono (by omega)) (by omega)).mono (fun e w' ⟨h1, h2, h3, h4⟩ => ⟨h1, (HB.out.trans (hW.mono HB.out.size)).trans h2, (Ky.of_below hW).trans h3, h4⟩)
          have HM : Hid ((us ++ nz a' (r * q')) ++ mg r ((a, q) :: u) u' = vs ++ mg r v v') := by show _ = _; rw [← HE.out, mg_gt _ _ _ _ _ _ _ hab, List.append_assoc]
          have hl3 : us.length + (nz a' (r * q')).length + (((a, q) :: u) : List (Int × Rat)).length + (u' : List (Int × Rat)).length ≤ 100000 := by have := nz_len a' (r * q'); simp at hlen2 ⊢; omega
          have HU2 := hid HW.out.tail
          have hd1 : decide (a < a') = false := by simp; omega
          go_wp2
          go_quiet (fail)
          go_wp2
          go_quiet (fail)
          go_wp2
          go_region_held3 (fun w' => w'.cell? ⟨b', o', none⟩ = some (.int .i64 a') ∧ w'.cell? ⟨b', o' + 1, none⟩ = some (.bool ss) ∧ w'.cell? ⟨b', o' + 2, none⟩ = some (.slice sx sn sc) ∧ w'.cell? ⟨b', o' + 3, none⟩ = some (.slice sy sm sd) ∧ w'.cell? ⟨w.heap.size, 0, none⟩ = some (.bool s) ∧ w'.cell? ⟨w.heap.size, 1, none⟩ = some (.slice x n c) ∧ w'.cell? ⟨w.heap.size, 2, none⟩ = some (.slice y m d))
            (refine ⟨?_, ?_, ?_, ?_, ?_, ?_, ?_⟩ <;> repeat (with_reducible first | assumption | refine kCdn ?_ | refine kCd ?_ | refine kCa ?_ | refine kCb (by assumption) ?_))
            (first
              | (go_at_call 58; with_reducible refine (CM.out _ (by repeat (with_reducible first | assumption | exact Below.refl _ _ | refine kBdn ?_ | refine Below.drew ?_ | refine kBa ?_ | refine kBb (by assumption) ?_))).mono ?_; rintro e w5 ⟨sp, xp, np, cp, fp, yp, mp, dp, gp, rfl, hb5, HP⟩)
              | (go_at_call 78; with_reducible refine (CP.out _ sp xp np cp fp yp mp dp gp (by repeat (with_reducible first | assumption | exact Below.refl _ _ | refine kBdn ?_ | refine Below.drew ?_ | refine kBa ?_ | refine kBb (by assumption) ?_)) HP.out).mono ?_; rintro e w6 ⟨rfl, hb6, HY6, HA6⟩; have hbx6 := HY6.out.keep HBX.out (by decide) (by decide); have r60 : w6.cell? ⟨w.heap.size, 0, none⟩ = some (.bool s) := (by simp [World.cell?, hbx6]); have r61 : w6.cell? ⟨w.heap.size, 1, none⟩ = some (.slice x n c) := (by simp [World.cell?, hbx6]); have r62 : w6.cell? ⟨w.heap.size, 2, none⟩ = some (.slice y m d) := (by simp [World.cell?, hbx6])))
          have HFX := hid (HY6.out.keep HBX.out (by decide) (by decide))
          have HFB := hid hb6; have HFA := HA6
          by_cases hcw1 : cw = 1
          · obtain rfl : u' = [] := List.eq_nil_of_length_eq_zero (by omega)
            subst hcw1
            go_wp2
            go_roundw
            case rel =>
              refine ⟨some ⟨b, o, none⟩, some ⟨b', o', none⟩, cv, 0, ((a, q) :: u), [], us ++ nz a' (r * q'), rfl, rfl, ?_, ?_, HV.out, Tf.nil _ _ _, HFB.out, HFX.out, HFA.out, HM.out, ?_⟩
              · simp <;> omega
              · simp <;> omega
              · simp at hl3 ⊢ <;> omega
            case measure => simp [slen] <;> omega
          · have hz : 0 < cw := by omega
            go_wp2
            go_roundw
            case rel =>
              refine ⟨some ⟨b, o, none⟩, some ⟨b', o' + 4, none⟩, cv, cw - 1, ((a, q) :: u), u', us ++ nz a' (r * q'), rfl, rfl, ?_, ?_, HV.out, HU2.out, HFB.out, HFX.out, HFA.out, HM.out, ?_⟩
              · simp <;> omega
              · simp <;> omega
              · simp at hl3 ⊢ <;> omega
            case measure => simp [slen] <;> omega
end Go.Proofs.YthofcgpghbaccaaGreat
namespace Go.Proofs.YthofcgpghbaccaaGreat
open Go.RowKit

theorem tcells_get {l : List (Int × Nm)} {j : Nat} {z : Int} {t : Nm} (h : l[j]? = some (z, t)) (i : Nat) (hi : i < 4) : (tcells l)[j * 4 + i]? = (tcell z t)[i]? := by
  induction l generalizing j with
  | nil => simp at h
  | cons p l ih =>
    have e1 : tcells (p :: l) = tcell p.1 p.2 ++ tcells l := rfl
    have e2 : (tcell p.1 p.2).length = 4 := rfl
    cases j with
    | zero =>
      simp at h
      subst h
      rw [e1, List.getElem?_append_left (by rw [e2]; omega), Nat.zero_mul, Nat.zero_add]
    | succ j =>
      rw [e1, List.getElem?_append_right (by rw [e2]; omega), e2, show (j + 1) * 4 + i - 4 = j * 4 + i by omega]
      exact ih (by simpa using h)
/-- What was put together, as it is read. -/
theorem acv_tf {L base w Bv vs} (h : AcV L base w Bv vs) : ∃ ao cap, w.cell? ⟨Bv, 0, none⟩ = some (.slice ao vs.length cap) ∧ vs.length ≤ cap ∧ cap ≤ 9223372036854775807 ∧ (ao = none → vs = [] ∧ cap = 0) ∧ Tf L w ao vs := by
  obtain ⟨l, ha, hl, hq⟩ := h.ex
  obtain ⟨v, hv, hrow⟩ := ha.row
  have hc : w.cell? ⟨Bv, 0, none⟩ = some v := by simp [World.cell?, hv]
  have hrow' := hrow
  rcases hrow.2 with ⟨rfl, h0⟩ | ⟨g, cap, cur, rfl, hb, hg, hn, hm, hs, ht, hu⟩
  · have : vs = [] := List.eq_nil_of_length_eq_zero (by omega)
    subst this
    exact ⟨none, 0, hc, Nat.le_refl _, by omega, fun _ => ⟨rfl, rfl⟩, Tf.nil _ _ _⟩
  · refine ⟨some ⟨g, 0, none⟩, cap, by rw [hc, hl], by omega, by unfold maxLen at hm; omega, (fun e => by cases e), fun j a q hj => ?_⟩
    have hjl : j < l.length := by rw [hl]; exact (List.getElem?_eq_some_iff.1 hj).1
    obtain ⟨⟨z, t⟩, hzt⟩ : ∃ p, l[j]? = some p := ⟨_, List.getElem?_eq_getElem hjl⟩
    obtain ⟨q', e, hr⟩ := hq j z t hzt
    rw [e] at hj
    injection hj with hj
    injection hj with e1 e2
    subst e1; subst e2
    refine ⟨g, 0, t, rfl, ?_, hr⟩
    have hcell : ∀ i u, i < 4 → (tcell z t)[i]? = some u → w.cell? ⟨g, 0 + j * 4 + i, none⟩ = some u := fun i u hi hu => by
      rw [Nat.zero_add]
      exact hrow'.cells (by rw [tcells_get hzt i hi]; exact hu)
    exact ⟨by have := hcell 0 _ (by omega) rfl; simpa using this, hcell 1 _ (by omega) rfl, hcell 2 _ (by omega) rfl, hcell 3 _ (by omega) rfl⟩
theorem acv_new (L : Nat) (w : World) : AcV L w.heap.size (w.alloc (.cells #[.slice none 0 0] 22)) w.heap.size [] :=
  ⟨[], ⟨Nat.le_refl _, _, heap_alloc_new w _, rowG_nil _ _ _ _⟩, rfl, fun j z t h => by simp at h⟩

set_option maxRecDepth 100000 in
set_option maxHeartbeats 4000000 in
theorem plus1_c {L Bv b3 b4 b5 : Nat} {wB W : World} {av aw : Option Addr} {cv cw : Nat} {v v' : List (Int × Rat)} {s : Bool} {x : Option Addr} {n c : Nat} {f : Nat → Int} {y : Option Addr} {m d : Nat} {g : Nat → Int} {r : Rat}
    (hB : Below wB.heap.size wB W) (hA : AcV (4 * L + 3) wB.heap.size W Bv []) (hv : Tf L wB av v) (hw : Tf L wB aw v') (hr : Rn L wB s x n c f y m d g r) (hL : L ≤ 40000) (hcv : v.length ≤ cv ∧ cv ≤ 9223372036854775807) (hcw : v'.length ≤ cw ∧ cw ≤ 9223372036854775807) (hlen : v.length + v'.length ≤ 100000)
    (h3 : wB.cell? ⟨b3, 0, none⟩ = some (.slice av v.length cv)) (h5 : wB.cell? ⟨b5, 0, none⟩ = some (.slice aw v'.length cw)) (h40 : wB.cell? ⟨b4, 0, none⟩ = some (.bool s)) (h41 : wB.cell? ⟨b4, 1, none⟩ = some (.slice x n c)) (h42 : wB.cell? ⟨b4, 2, none⟩ = some (.slice y m d)) :
    Calls Tryz.prog 43 #[.func (.func 78) #[] #[.pointer (some ⟨Bv, 0, none⟩)], .pointer (some ⟨b3, 0, none⟩), .pointer (some ⟨b4, 0, none⟩), .pointer (some ⟨b5, 0, none⟩)] W fun e w' => e = .returned (.tuple #[]) ∧ Below wB.heap.size wB w' ∧ AcV (4 * L + 3) wB.heap.size w' Bv (mg r v v') := by
  have CM := hid (merge_c hB hA hv hw hr hL hcv hcw (by simp; omega))
  have x3 := kCb hB h3; have x5 := kCb hB h5; have x40 := kCb hB h40; have x41 := kCb hB h41; have x42 := kCb hB h42
  clear hB hA hv hw hr h3 h5 h40 h41 h42
  go_enter Tryz.func43, Tryz.ntmps43
  go_wp2_with fail
  refine CM.out.mono ?_
  rintro e w1 ⟨rfl, hb, ha⟩
  have HB := hid hb; have HA := hid ha
  clear hb ha
  go_wp2
  go_end0
  exact ⟨rfl, HB.out, HA.out⟩

/-- What gather answers. -/
def GAns (L : Nat) (w w' : World) (e : Ending) (vs : List (Int × Rat)) : Prop := ∃ ao cap, e = .returned (.slice ao vs.length cap) ∧ Below w.heap.size w w' ∧ vs.length ≤ cap ∧ cap ≤ 9223372036854775807 ∧ (ao = none → vs = [] ∧ cap = 0) ∧ Tf L w' ao vs

set_option maxRecDepth 100000 in
set_option maxHeartbeats 4000000 in
theorem gatherPlus_c {L b3 b4 b5 : Nat} {w : World} {av aw : Option Addr} {cv cw : Nat} {v v' : List (Int × Rat)} {s : Bool} {x : Option Addr} {n c : Nat} {f : Nat → Int} {y : Option Addr} {m d : Nat} {g : Nat → Int} {r : Rat}
    (hv : Tf L w av v) (hw : Tf L w aw v') (hr : Rn L w s x n c f y m d g r) (hL : L ≤ 40000) (hcv : v.length ≤ cv ∧ cv ≤ 9223372036854775807) (hcw : v'.length ≤ cw ∧ cw ≤ 9223372036854775807) (hlen : v.length + v'.length ≤ 100000)
    (h3 : w.cell? ⟨b3, 0, none⟩ = some (.slice av v.length cv)) (h5 : w.cell? ⟨b5, 0, none⟩ = some (.slice aw v'.length cw)) (h40 : w.cell? ⟨b4, 0, none⟩ = some (.bool s)) (h41 : w.cell? ⟨b4, 1, none⟩ = some (.slice x n c)) (h42 : w.cell? ⟨b4, 2, none⟩ = some (.slice y m d)) :
    Calls Tryz.prog 42 #[.func (.func 43) #[] #[.pointer (some ⟨b3, 0, none⟩), .pointer (some ⟨b4, 0, none⟩), .pointer (some ⟨b5, 0, none⟩)]] w fun e w' => GAns (4 * L + 3) w w' e (mg r v v') := by
  have CF := hid (plus1_c (below_alloc (Below.refl w.heap.size w) (.cells #[.slice none 0 0] 22)) (acv_new (4 * L + 3) w) hv hw hr hL hcv hcw hlen h3 h5 h40 h41 h42)
  clear hv hw hr h3 h5 h40 h41 h42
  have hmf : ∀ (fn : Fn) (first cap : Array Value) (w : World), (Instr.makeFunc fn first cap).run Tryz.prog w = .ok (.func fn first cap) w := fun _ _ _ _ => rfl
  go_enter Tryz.func42, Tryz.ntmps42
  go_wp2_with fail
  refine CF.out.mono ?_
  rintro e w1 ⟨rfl, hb, ha⟩
  obtain ⟨ao, cap, h1, h2, h3, h4, h5⟩ := acv_tf ha
  have HB := hid hb; have H5 := hid h5; have H4 := hid h4
  clear hb ha h5 h4
  go_wp2
  go_ret
  exact ⟨ao, cap, rfl, HB.out, h2, h3, H4.out, H5.out⟩
end Go.Proofs.YthofcgpghbaccaaGreat
namespace Go.Proofs.YthofcgpghbaccaaGreat
open Go.RowKit

theorem tfr_all {col : Nat → Int} {T : Nat → Nm} : ∀ {r i : Nat} {last : Int}, tfr col T r i last = true → (∀ j, i ≤ j → j < i + r → last < col j ∧ nfB (T j) = true ∧ 0 < (T j).n) ∧ ∀ j k, i ≤ j → j < k → k < i + r → col j < col k := by
  intro r
  induction r with
  | zero => intro i last _; exact ⟨fun j h1 h2 => by omega, fun j k h1 h2 h3 => by omega⟩
  | succ r ih =>
    intro i last h
    simp only [tfr, Bool.and_eq_true, decide_eq_true_eq] at h
    obtain ⟨h1, h2, h3, h4⟩ := h
    obtain ⟨k1, k2⟩ := ih h4
    constructor
    · intro j hj hj2
      by_cases e : j = i
      · subst e; exact ⟨h1, h2, h3⟩
      · obtain ⟨a, b, c⟩ := k1 j (by omega) (by omega)
        exact ⟨by omega, b, c⟩
    · intro j k hj hjk hk
      by_cases e : j = i
      · subst e; exact (k1 k (by omega) (by omega)).1
      · exact k2 j k (by omega) hjk (by omega)
/-- In form, as values: columns rise from 0 on, no nought. -/
structure Vf (v : List (Int × Rat)) : Prop where
  nz : ∀ (j : Nat) (a : Int) (q : Rat), v[j]? = some (a, q) → q ≠ 0 ∧ 0 ≤ a
  inc : ∀ (i j : Nat) (a b : Int) (p q : Rat), i < j → v[i]? = some (a, p) → v[j]? = some (b, q) → a < b
theorem Nm.rn {w : World} {t : Nm} {L : Nat} (h : NmR w t) (hf : nfB t = true) (hn : t.n ≤ L) (hm : t.m ≤ L) : ∃ q, Rn L w t.s t.x t.n t.c t.f t.y t.m t.d t.g q := h.1.rn hf hn hm
/-- A list of terms in form has values. -/
theorem tl_tf {w : World} {ao : Option Addr} {k : Nat} {col : Nat → Int} {T : Nat → Nm} {L : Nat} (h : Tl w ao k col T) (hf : tfB k col T = true) (hL : ∀ j, j < k → (T j).n ≤ L ∧ (T j).m ≤ L) : ∃ v : List (Int × Rat), v.length = k ∧ Tf L w ao v ∧ Vf v ∧ ∀ j, j < k → ∃ q, v[j]? = some (col j, q) ∧ Rn L w (T j).s (T j).x (T j).n (T j).c (T j).f (T j).y (T j).m (T j).d (T j).g q := by
  obtain ⟨h1, h2⟩ := tfr_all hf
  have hq : ∀ j, ∃ q, j < k → Rn L w (T j).s (T j).x (T j).n (T j).c (T j).f (T j).y (T j).m (T j).d (T j).g q := fun j => by
    by_cases hj : j < k
    · obtain ⟨b, o, _, _, hr⟩ := h j hj
      obtain ⟨q, hq⟩ := Nm.rn hr (h1 j (by omega) (by omega)).2.1 (hL j hj).1 (hL j hj).2
      exact ⟨q, fun _ => hq⟩
    · exact ⟨0, fun h => absurd h hj⟩
  have hQ := fun j => Classical.choose_spec (hq j)
  generalize hQe : (fun j => Classical.choose (hq j)) = Q at *
  have hQ2 : ∀ j, j < k → Rn L w (T j).s (T j).x (T j).n (T j).c (T j).f (T j).y (T j).m (T j).d (T j).g (Q j) := fun j hj => by rw [← hQe]; exact hQ j hj
  have hget : ∀ j a q, ((List.range k).map (fun j => (col j, Q j)))[j]? = some (a, q) → j < k ∧ a = col j ∧ q = Q j := by
    intro j a q hj
    have hlt : j < k := by
      have := (List.getElem?_eq_some_iff.1 hj).1
      simpa using this
    simp [hlt] at hj
    exact ⟨hlt, hj.1.symm, hj.2.symm⟩
  refine ⟨(List.range k).map (fun j => (col j, Q j)), by simp, ?_, ⟨?_, ?_⟩, fun j hj => ⟨Q j, by simp [hj], hQ2 j hj⟩⟩
  · intro j a q hj
    obtain ⟨hlt, rfl, rfl⟩ := hget j a q hj
    obtain ⟨b, o, e, hc, _⟩ := h j hlt
    exact ⟨b, o, T j, e, hc, hQ2 j hlt⟩
  · intro j a q hj
    obtain ⟨hlt, rfl, rfl⟩ := hget j a q hj
    obtain ⟨a1, _, a3⟩ := h1 j (by omega) (by omega)
    exact ⟨fun e => by have := (hQ2 j hlt).zero_iff.2 e; omega, by omega⟩
  · intro i j a b p q hij hi hj
    obtain ⟨h3, rfl, rfl⟩ := hget i a p hi
    obtain ⟨h4, rfl, rfl⟩ := hget j b q hj
    exact h2 i j (by omega) hij (by omega)

/-- Boxes of Plus: a list, a number, a list. -/
structure Bp (w : World) (B : Nat) (a0 r0 r1 r2 b0 : Value) : Prop where
  z : B + 1 + 1 < w.heap.size
  x : w.cell? ⟨B, 0, none⟩ = some a0
  y0 : w.cell? ⟨B + 1, 0, none⟩ = some r0
  y1 : w.cell? ⟨B + 1, 1, none⟩ = some r1
  y2 : w.cell? ⟨B + 1, 2, none⟩ = some r2
  u : w.cell? ⟨B + 1 + 1, 0, none⟩ = some b0
theorem Bp.below {w w' B a0 r0 r1 r2 b0} (h : Bp w B a0 r0 r1 r2 b0) (hb : Below w.heap.size w w') : Bp w' B a0 r0 r1 r2 b0 := ⟨Nat.lt_of_lt_of_le h.z hb.size, kCb hb h.x, kCb hb h.y0, kCb hb h.y1, kCb hb h.y2, kCb hb h.u⟩
theorem bp_new (w : World) (a0 r0 r1 r2 b0 : Value) (t1 t2 t3 : TypeId) : Bp (((w.alloc (.cells #[a0] t1)).alloc (.cells #[r0, r1, r2] t2)).alloc (.cells #[b0] t3)) w.heap.size a0 r0 r1 r2 b0 :=
  ⟨by simp, by simp [go_sem], by simp [go_sem], by simp [go_sem], by simp [go_sem], by simp [go_sem]⟩
/-- What Plus and Scale answer. -/
def OV (p : Bool) (L : Nat) (w' : World) (ao : Option Addr) (n cap : Nat) (er : Int) (vs : List (Int × Rat)) : Prop :=
  p = false ∧ er = 3 ∧ ao = none ∧ n = 0 ∧ cap = 0 ∨ p = true ∧ er = 0 ∧ n = vs.length ∧ vs.length ≤ cap ∧ cap ≤ 9223372036854775807 ∧ (ao = none → vs = [] ∧ cap = 0) ∧ Tf L w' ao vs

set_option maxRecDepth 100000 in
set_option maxHeartbeats 4000000 in
theorem vPlus_c {w : World} {L : Nat} {av aw : Option Addr} {k k' cv cw : Nat} {col col' : Nat → Int} {T T' : Nat → Nm} {s : Bool} {x : Option Addr} {n c : Nat} {f : Nat → Int} {y : Option Addr} {m d : Nat} {g : Nat → Int} {v v' : List (Int × Rat)} {r : Rat}
    (hv : Tl w av k col T) (hw : Tl w aw k' col' T') (hr : NmR w ⟨s, x, n, c, f, y, m, d, g⟩) (hk : k + k' ≤ 100000) (hcv : k ≤ cv ∧ cv ≤ 9223372036854775807) (hcw : k' ≤ cw ∧ cw ≤ 9223372036854775807) (hL : L ≤ 40000)
    (fv : tfB k col T = true → v.length = k ∧ Tf L w av v) (fw : tfB k' col' T' = true → v'.length = k' ∧ Tf L w aw v') (fr : nfB ⟨s, x, n, c, f, y, m, d, g⟩ = true → Rn L w s x n c f y m d g r) :
    Calls Tryz.prog 11 #[.slice av k cv, .agg #[.bool s, .slice x n c, .slice y m d], .slice aw k' cw] w fun e w' => ∃ ao j cap er, e = .returned (.tuple #[.slice ao j cap, .int .i64 er]) ∧ Below w.heap.size w w' ∧ OV (tfB k col T && (nfB ⟨s, x, n, c, f, y, m, d, g⟩ && tfB k' col' T')) (4 * L + 3) w' ao j cap er (mg r v v') := by
  have HV := hid hv; have HW := hid hw; have HR := hid hr; have FV := hid fv; have FW := hid fw; have FR := hid fr
  have hb0 := below_alloc (below_alloc (below_alloc (Below.refl w.heap.size w) (.cells #[.slice av k cv] 22)) (.cells #[.bool s, .slice x n c, .slice y m d] 25)) (.cells #[.slice aw k' cw] 22)
  have hp0 := bp_new w (.slice av k cv) (.bool s) (.slice x n c) (.slice y m d) (.slice aw k' cw) 22 25 22
  clear hv hw hr fv fw fr
  have hmf : ∀ (fn : Fn) (first cap : Array Value) (w : World), (Instr.makeFunc fn first cap).run Tryz.prog w = .ok (.func fn first cap) w := fun _ _ _ _ => rfl
  go_enter Tryz.func11, Tryz.ntmps11
  go_wp2_with fail
  generalize ((w.alloc (.cells #[.slice av k cv] 22)).alloc (.cells #[.bool s, .slice x n c, .slice y m d] 25)).alloc (.cells #[.slice aw k' cw] 22) = w0 at *
  have HB0 := hid hb0
  refine (vForm_c (cap := cv) (HV.out.below hb0) (by omega)).mono ?_
  rintro e w1 ⟨rfl, hb1⟩
  have HB1 := hid (hb0.trans (hb1.mono hb0.size)); have HP1 := hid (hp0.below hb1)
  clear hb0 hb1 hp0 HB0
  cases h1 : tfB k col T
  · have H1 := hid h1
    clear h1
    go_wp2
    go_ret2
    exact ⟨none, 0, 0, 3, rfl, HB1.out, .inl ⟨by rw [H1.out]; rfl, rfl, rfl, rfl, rfl⟩⟩
  obtain ⟨z1, q0, q1, q2, q3, q4⟩ := HP1.out
  have H1 := hid h1
  clear h1
  go_wp2_with fail
  refine (rForm_c (s := s) (HR.out.1.below HB1.out) (Nat.le_trans HR.out.2.1 (by omega)) (Nat.le_trans HR.out.2.2 (by omega))).mono ?_
  rintro e w2 ⟨rfl, hb2⟩
  have HB2 := hid (HB1.out.trans (hb2.mono HB1.out.size)); have HP2 := hid (HP1.out.below hb2)
  clear hb2 HB1 HP1 z1 q0 q1 q2 q3 q4
  cases h2 : rfB s f n g m
  · have H2 : Hid (nfB ⟨s, x, n, c, f, y, m, d, g⟩ = false) := h2
    clear h2
    go_wp2
    go_ret2
    exact ⟨none, 0, 0, 3, rfl, HB2.out, .inl ⟨by rw [H1.out, H2.out]; rfl, rfl, rfl, rfl, rfl⟩⟩
  have H2 : Hid (nfB ⟨s, x, n, c, f, y, m, d, g⟩ = true) := h2
  clear h2
  obtain ⟨z1, q0, q1, q2, q3, q4⟩ := HP2.out
  go_wp2_with fail
  refine (vForm_c (cap := cw) (HW.out.below HB2.out) (by omega)).mono ?_
  rintro e w3 ⟨rfl, hb3⟩
  have HB3 := hid (HB2.out.trans (hb3.mono HB2.out.size)); have HP3 := hid (HP2.out.below hb3)
  clear hb3 HB2 HP2 z1 q0 q1 q2 q3 q4
  cases h3 : tfB k' col' T'
  · have H3 := hid h3
    clear h3
    go_wp2
    go_ret2
    exact ⟨none, 0, 0, 3, rfl, HB3.out, .inl ⟨by rw [H1.out, H2.out, H3.out]; rfl, rfl, rfl, rfl, rfl⟩⟩
  have H3 := hid h3
  clear h3
  obtain ⟨lv, tv⟩ := FV.out H1.out
  obtain ⟨lw, tw⟩ := FW.out H3.out
  obtain ⟨z1, q0, q1, q2, q3, q4⟩ := HP3.out
  have CG := hid (gatherPlus_c (b3 := w.heap.size) (b4 := w.heap.size + 1) (b5 := w.heap.size + 1 + 1) (tv.below HB3.out) (tw.below HB3.out) ((FR.out H2.out).below HB3.out) hL (cv := cv) (cw := cw) (by rw [lv]; exact hcv) (by rw [lw]; exact hcw) (by omega) (by rw [lv]; exact q0) (by rw [lw]; exact q4) q1 q2 q3)
  clear tv tw lv lw
  go_wp2_with fail
  refine CG.out.mono ?_
  rintro e w4 ⟨ao, cap, rfl, hb4, h5, h6, h7, h8⟩
  have HB4 := hid (HB3.out.trans (hb4.mono HB3.out.size)); have H7 := hid h7; have H8 := hid h8
  clear hb4 h7 h8 q0 q1 q2 q3 q4
  go_wp2
  go_ret2
  exact ⟨ao, _, cap, 0, rfl, HB4.out, .inr ⟨by rw [H1.out, H2.out, H3.out]; rfl, rfl, rfl, h5, h6, H7.out, H8.out⟩⟩
end Go.Proofs.YthofcgpghbaccaaGreat

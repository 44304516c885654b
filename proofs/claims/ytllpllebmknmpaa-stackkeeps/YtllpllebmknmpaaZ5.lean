/-
  A stack without steps in memory; the walks of stack.New, Size and Tightened, of point.Numbers, of rat.Copy (with its owners) and of stack.copied. The walk of stack.copied. The walks of stack.back without steps, of stack.copiedPoint, and of the reference's Twin of points and of certificates (written by makers/o3.py). The walks of stack's numbers, Primal, Lift, checkPoint and Dual, of a stack without steps (written by makers/o4.py). The reference's Same and Sames of lists with the same values. The walk of law17's awake, and of StackNew (written by makers/o5.py).
-/
import Derived.Test.YtllpllebmknmpaaZ3
import Derived.Test.YtllpllebmknmpaaZ4
import Derived.BigQuiet
import Derived.Deep.RegionHeld3
namespace Go.Proofs.Ytllpllebmknmpaa
open Go.RowKit

/-- A stack without steps, of a model of n columns and k rows. -/
structure Sk (w : World) (B : Nat) (n k : Int) : Prop where
  c0 : w.cell? ⟨B, 0, none⟩ = some (.int .i64 n)
  c1 : w.cell? ⟨B, 1, none⟩ = some (.int .i64 k)
  c2 : w.cell? ⟨B, 2, none⟩ = some (.int .i64 n)
  c3 : w.cell? ⟨B, 3, none⟩ = some (.int .i64 k)
  c4 : w.cell? ⟨B, 4, none⟩ = some (.pointer none)
  c5 : w.cell? ⟨B, 5, none⟩ = some (.bool false)
theorem Sk.below {w w' B n k} (h : Sk w B n k) (hb : Below w.heap.size w w') : Sk w' B n k := ⟨kCb hb h.c0, kCb hb h.c1, kCb hb h.c2, kCb hb h.c3, kCb hb h.c4, kCb hb h.c5⟩
theorem Sk.lt {w B n k} (h : Sk w B n k) : B < w.heap.size := World.block_lt_of_cell? w _ h.c0

theorem snew_c {w : World} {n k : Int} (h1 : 0 ≤ n) (h2 : n ≤ 64) (h3 : 0 ≤ k) (h4 : k ≤ 64) :
    Calls Try.prog 9 #[.int .i64 n, .int .i64 k] w fun e w' => ∃ B, e = .returned (.tuple #[.pointer (some ⟨B, 0, none⟩), .int .i64 0]) ∧ Below w.heap.size w w' ∧ Hid (w.heap.size ≤ B ∧ Sk w' B n k) := by
  have i1 : ¬ n < 0 := by omega
  have i2 : ¬ (64 : Int) < n := by omega
  have i3 : ¬ k < 0 := by omega
  have i4 : ¬ (64 : Int) < k := by omega
  go_enter Try.func9, Try.ntmps9
  go_wp2
  go_ret2
  refine ⟨_, rfl, below_alloc (below_alloc (Below.refl _ _) _) _, ?_, ?_⟩
  · simp
  · refine ⟨?_, ?_, ?_, ?_, ?_, ?_⟩ <;> simp [go_sem]
theorem snewE_c {w : World} {n k : Int} (h : n < 0 ∨ 64 < n ∨ k < 0 ∨ 64 < k) :
    Calls Try.prog 9 #[.int .i64 n, .int .i64 k] w fun e w' => e = .returned (.tuple #[.pointer none, .int .i64 1]) ∧ w' = w := by
  by_cases h1 : n < 0
  · go_enter Try.func9, Try.ntmps9
    go_wp2
    go_ret2
    exact ⟨rfl, rfl⟩
  by_cases h2 : (64 : Int) < n
  · go_enter Try.func9, Try.ntmps9
    go_wp2
    go_ret2
    exact ⟨rfl, rfl⟩
  by_cases h3 : k < 0
  · go_enter Try.func9, Try.ntmps9
    go_wp2
    go_ret2
    exact ⟨rfl, rfl⟩
  have h4 : (64 : Int) < k := by omega
  go_enter Try.func9, Try.ntmps9
  go_wp2
  go_ret2
  exact ⟨rfl, rfl⟩
theorem ssize_c {w : World} {B : Nat} {n k : Int} (h : Sk w B n k) :
    Calls Try.prog 10 #[.pointer (some ⟨B, 0, none⟩)] w fun e w' => e = .returned (.tuple #[.int .i64 n, .int .i64 k, .int .i64 n, .int .i64 k]) ∧ Below w.heap.size w w' := by
  obtain ⟨c0, c1, c2, c3, c4, c5⟩ := h
  go_enter Try.func10, Try.ntmps10
  go_upto_region 3 with fail
  go_quiet (fail)
  go_wp2
  exact bodyPost_ret (v := .tuple #[.int .i64 n, .int .i64 k, .int .i64 n, .int .i64 k]) (by simp [results, Try.results10, go_sem]) rfl ⟨rfl, by first | exact Below.refl _ _ | exact Below.drew (Below.refl _ _) | exact below_drewN (Below.refl _ _) _⟩
theorem stight_c {w : World} {B : Nat} {n k : Int} (h : Sk w B n k) :
    Calls Try.prog 11 #[.pointer (some ⟨B, 0, none⟩)] w fun e w' => e = .returned (.bool false) ∧ w' = w := by
  obtain ⟨c0, c1, c2, c3, c4, c5⟩ := h
  go_enter Try.func11, Try.ntmps11
  go_wp2
  go_ret
  exact ⟨rfl, rfl⟩

/-- The error of a list of numbers that must have z of them. -/
def pnE (k : Nat) (X : Nat → Nm) (z : Int) : Int := if afB k X = true then (if (k : Int) = z then 0 else 7) else 3
set_option maxRecDepth 100000 in
set_option maxHeartbeats 4000000 in
theorem pNumbers_c {w : World} {ao : Option Addr} {k cap : Nat} {X : Nat → Nm} {z : Int} (h : Rl w ao k X) (hk : k ≤ 1048576) :
    Calls Try.prog 43 #[.slice ao k cap, .int .i64 z] w fun e w' => e = .returned (.int .i64 (pnE k X z)) ∧ Below w.heap.size w w' := by
  have H := hid h
  clear h
  go_enter Try.func43, Try.ntmps43
  go_wp2_with fail
  go_loopw [9] (fun t wr => ∃ (i : Nat), i ≤ k ∧ t = .int .i64 i ∧ Hid (Below w.heap.size w wr) ∧ Hid (afB k X = afr X (k - i) i)) (fun t _ => k - (intOf t).toNat)
  case atStart => exact ⟨0, by omega, rfl, Below.refl _ _, rfl⟩
  case round =>
    obtain ⟨i, hi, rfl, HB, HT⟩ := hrel
    by_cases hlt : i < k
    · obtain ⟨b, o, rfl, hc, hn, hn1, hn2⟩ := (H.out.below HB.out) i hlt
      obtain ⟨r, hr⟩ : ∃ r, k - i = r + 1 := ⟨k - i - 1, by omega⟩
      have hT : afB k X = (nfB (X i) && afr X r (i + 1)) := by rw [HT.out, hr]; rfl
      have hr2 : k - (i + 1) = r := by omega
      obtain ⟨⟨s, x, n, c, f, y, m, d, g⟩, hTi⟩ : ∃ t, X i = t := ⟨_, rfl⟩
      rw [hTi] at hc hn hn1 hn2 hT
      obtain ⟨x0, x1, x2⟩ := hc
      replace x0 : wr.cell? ⟨b, o + i * 3, none⟩ = some (.bool s) := x0
      replace x1 : wr.cell? ⟨b, o + i * 3 + 1, none⟩ = some (.slice x n c) := x1
      replace x2 : wr.cell? ⟨b, o + i * 3 + 2, none⟩ = some (.slice y m d) := x2
      replace hn : Rw wr x n c f y m d g := hn
      replace hn1 : n ≤ 65536 := hn1
      replace hn2 : m ≤ 65536 := hn2
      have hblk : Below wr.heap.size wr (wr.alloc (.cells #[.bool s, .slice x n c, .slice y m d] 66)) := below_alloc (Below.refl _ _) _
      have CF := hid (rForm_c (s := s) (hn.below hblk) (by omega) (by omega))
      have HTi := hid hT; have HR2 := hid hr2
      have i1 : ((i : Nat) : Int) < ((k : Nat) : Int) := by omega
      clear hT hr2 hTi hr hn hblk
      cases hf : rfB s f n g m
      · have CF2 := CF
        rw [hf] at CF2
        have HNF : Hid (nfB ⟨s, x, n, c, f, y, m, d, g⟩ = false) := hf
        clear CF hf
        go_wp2_with fail
        refine CF2.out.mono ?_
        rintro e w1 ⟨rfl, hb1⟩
        obtain ⟨_, _, _, _, hb2⟩ := box3 hb1
        go_wp2
        go_ret
        refine ⟨?_, HB.out.trans (hb2.mono HB.out.size)⟩
        rw [pnE, HTi.out, HNF.out]; rfl
      · have CF2 := CF
        rw [hf] at CF2
        have HNF : Hid (nfB ⟨s, x, n, c, f, y, m, d, g⟩ = true) := hf
        clear CF hf
        go_wp2_with fail
        refine CF2.out.mono ?_
        rintro e w1 ⟨rfl, hb1⟩
        obtain ⟨_, _, _, _, hb2⟩ := box3 hb1
        have HB2 := hid (HB.out.trans (hb2.mono HB.out.size))
        clear hb1 hb2
        go_wp2
        go_roundw
        case rel =>
          refine ⟨i + 1, by omega, by go_num, HB2.out, ?_⟩
          show _ = _
          rw [HTi.out, HNF.out, HR2.out]; rfl
        case measure => simp [intOf]; omega
    · have e1 : i = k := by omega
      have HTe : Hid (afB k X = true) := by
        show _ = _
        rw [HT.out, e1, Nat.sub_self]; rfl
      have i2 : ¬ (((i : Nat) : Int) < ((k : Nat) : Int)) := by omega
      clear e1 HT
      by_cases hz : ((k : Nat) : Int) = z
      · have hz1 : (((k : Nat) : Int) != z) = false := by simpa using hz
        have HZ := hid (show pnE k X z = 0 by rw [pnE, HTe.out]; simp [hz])
        clear hz
        go_wp2
        go_ret
        refine ⟨?_, HB.out⟩
        rw [HZ.out]; rfl
      · have hz1 : (((k : Nat) : Int) != z) = true := by simpa using hz
        have HZ := hid (show pnE k X z = 7 by rw [pnE, HTe.out]; simp [hz])
        clear hz
        go_wp2
        go_ret
        refine ⟨?_, HB.out⟩
        rw [HZ.out]; rfl

/-- Three stores into a box leave a list of a call's own. -/
theorem own_st {w : World} {B base : Nat} {u0 u1 u2 : Value} {x : Option Addr} {n c : Nat} {f : Nat → Int} (h : Own .u64 63 w base (.slice x n c) n f) (hB : B < base) : Own .u64 63 (((w.setCell ⟨B, 0, none⟩ u0).setCell ⟨B, 1, none⟩ u1).setCell ⟨B, 2, none⟩ u2) base (.slice x n c) n f :=
  h.of (fun a ha => by
    have hne : a.block ≠ B := by have := (h.slice.2.2.2.2 a ha).1; omega
    rw [Below.heap_setCell _ _ _ _ hne, Below.heap_setCell _ _ _ _ hne, Below.heap_setCell _ _ _ _ hne])
set_option maxRecDepth 100000 in
set_option maxHeartbeats 4000000 in
theorem rCopy_o {w : World} {sa : Bool} {xa : Option Addr} {na ca : Nat} {fa : Nat → Int} {ya : Option Addr} {ma da : Nat} {ga : Nat → Int} (ha : Rw w xa na ca fa ya ma da ga) (hn : na ≤ 1048576) (hm : ma ≤ 1048576) :
    Calls Try.prog 54 #[.agg #[.bool sa, .slice xa na ca, .slice ya ma da]] w fun e w' => ∃ x c y d, e = .returned (.agg #[.bool sa, .slice x na c, .slice y ma d]) ∧ Below w.heap.size w w' ∧ Hid (Own .u64 63 w' w.heap.size (.slice x na c) na fa ∧ Own .u64 63 w' w.heap.size (.slice y ma d) ma ga) := by
  have h1 := (ha.alloc (.cells #[.bool sa, .slice xa na ca, .slice ya ma da] 66)).alloc (.cells #[.bool false, .slice none 0 0, .slice none 0 0] 66)
  have h3 := ob_new (w.alloc (.cells #[.bool sa, .slice xa na ca, .slice ya ma da] 66)) 66
  rw [size_alloc1] at h3
  have h4 := below_alloc (below_alloc (Below.refl w.heap.size w) (.cells #[.bool sa, .slice xa na ca, .slice ya ma da] 66)) (.cells #[.bool false, .slice none 0 0, .slice none 0 0] 66)
  have h5 := (bx3_at w (.bool sa) (.slice xa na ca) (.slice ya ma da) 66).alloc (.cells #[.bool false, .slice none 0 0, .slice none 0 0] 66)
  have h6 : ((w.alloc (.cells #[.bool sa, .slice xa na ca, .slice ya ma da] 66)).alloc (.cells #[.bool false, .slice none 0 0, .slice none 0 0] 66)).heap.size = w.heap.size + 1 + 1 := by simp
  clear ha
  go_enter Try.func54, Try.ntmps54
  go_wp2_with fail
  generalize (w.alloc (.cells #[.bool sa, .slice xa na ca, .slice ya ma da] 66)).alloc (.cells #[.bool false, .slice none 0 0, .slice none 0 0] 66) = w1 at *
  have HA := hid h1; have OB := h3; have HW := hid h4; have H6 := hid h6
  obtain ⟨hz, z0, z1, z2, zf⟩ := h3
  obtain ⟨hy, x0, x1, x2⟩ := h5
  clear h1 h4 h6
  have C1 : Hid (∀ W, Below w1.heap.size w1 W → Calls Try.prog 66 #[.slice xa na ca] W fun e w' => ∃ z c', e = .returned (.slice z na c') ∧ Below W.heap.size W w' ∧ Hid (Own .u64 63 w' w1.heap.size (.slice z na c') na fa)) := fun W hW => (rclone_c xa na ca fa W hn (HA.out.below hW).rx (HA.out.below hW).nx).mono (fun _ _ ⟨z, c', a1, a2, a3⟩ => ⟨z, c', a1, a2, a3.base hW.size⟩)
  have C2 : Hid (∀ W, Below w1.heap.size w1 W → Calls Try.prog 66 #[.slice ya ma da] W fun e w' => ∃ z c', e = .returned (.slice z ma c') ∧ Below W.heap.size W w' ∧ Hid (Own .u64 63 w' w1.heap.size (.slice z ma c') ma ga)) := fun W hW => (rclone_c ya ma da ga W hm (HA.out.below hW).ry (HA.out.below hW).ny).mono (fun _ _ ⟨z, c', a1, a2, a3⟩ => ⟨z, c', a1, a2, a3.base hW.size⟩)
  go_region_held3 (fun w' => w'.cell? ⟨w.heap.size, 0, none⟩ = some (.bool sa) ∧ w'.cell? ⟨w.heap.size, 1, none⟩ = some (.slice xa na ca) ∧ w'.cell? ⟨w.heap.size, 2, none⟩ = some (.slice ya ma da) ∧ (w'.cell? ⟨w.heap.size + 1, 0, none⟩).isSome = true ∧ (w'.cell? ⟨w.heap.size + 1, 1, none⟩).isSome = true ∧ (w'.cell? ⟨w.heap.size + 1, 2, none⟩).isSome = true ∧ w'.frozen? ⟨w.heap.size + 1, 0, none⟩ = false ∧ w'.frozen? ⟨w.heap.size + 1, 1, none⟩ = false ∧ w'.frozen? ⟨w.heap.size + 1, 2, none⟩ = false)
    (refine ⟨?_, ?_, ?_, ?_, ?_, ?_, ?_, ?_, ?_⟩ <;> repeat (with_reducible first | assumption | exact zf _ | exact kI0 z0 | exact kI0 z1 | exact kI0 z2 | exact tf _ | exact kI0 t0 | exact kI0 t1 | exact kI0 t2 | exact uf _ | exact kI0 u0 | exact kI0 u1 | exact kI0 u2 | refine kCd ?_ | refine kId ?_ | refine kFd ?_ | refine kCs (by simp only [ne_eq]; omega) ?_ | refine kIs ?_ | refine kFs ?_ | refine kCb (by assumption) ?_ | refine kIb (by assumption) ?_))
    (first
      | (go_at_call 66; with_reducible refine (C1.out _ (by repeat (with_reducible first | assumption | exact Below.refl _ _ | refine Below.drew ?_ | refine kBa ?_ | refine kBb (by assumption) ?_))).mono ?_; rintro e w5 ⟨zp, cp, rfl, hb5, HP⟩; have TU : Ob w5 (w.heap.size + 1) := (by repeat (with_reducible first | exact OB | exact TU | exact TV | refine Ob.drew ?_ | refine kOb (by assumption) ?_)); obtain ⟨_, t0, t1, t2, tf⟩ := id TU)
      | (go_at_call 66; with_reducible refine (C2.out _ (by repeat (with_reducible first | assumption | exact Below.refl _ _ | refine Below.drew ?_ | refine kBa ?_ | refine kBb (by assumption) ?_))).mono ?_; rintro e w6 ⟨zq, cq, rfl, hb6, HQ⟩; have TV : Ob w6 (w.heap.size + 1) := (by repeat (with_reducible first | exact OB | exact TU | exact TV | refine Ob.drew ?_ | refine kOb (by assumption) ?_)); obtain ⟨_, u0, u1, u2, uf⟩ := id TV))
  have WA := HP.out.below hb6
  have hb : Below w1.heap.size w1 w6 := (by repeat (with_reducible first | assumption | exact Below.refl _ _ | refine Below.drew ?_ | refine kBa ?_ | refine kBb (by assumption) ?_))
  have h6 := H6.out
  go_wp2
  exact bodyPost_ret (v := .agg #[.bool sa, .slice zp na cp, .slice zq ma cq]) (by simp [results, Try.results54, go_sem, u0, u1, u2]) rfl ⟨zp, cp, zq, cq, rfl, below_st (HW.out.trans (hb.mono HW.out.size)) (by omega), (own_st WA (by omega)).base (by omega), (own_st HQ.out (by omega)).base (by omega)⟩

/-- The first limb of a list that is not empty may be written, and lies at or above a place. -/
def Dw (w : World) (base : Nat) (y : Option Addr) (m : Nat) : Prop := 0 < m → ∃ b, y = some ⟨b, 0, none⟩ ∧ base ≤ b ∧ (∃ q, w.cell? ⟨b, 0, none⟩ = some (.int .u64 q)) ∧ w.frozen? ⟨b, 0, none⟩ = false
theorem Dw.below {w w' base y m} (h : Dw w base y m) (hb : Below w.heap.size w w') : Dw w' base y m := fun hm => by
  obtain ⟨b, h1, h2, ⟨q, h3⟩, h4⟩ := h hm
  obtain ⟨_, h5⟩ := bcell hb
  exact ⟨b, h1, h2, ⟨q, kCb hb h3⟩, (h5 _ _ (World.block_lt_of_cell? w _ h3)).trans h4⟩
theorem own_dw {w base y m d g} (h : Own .u64 63 w base (.slice y m d) m g) : Dw w base y m := fun hm => by
  obtain ⟨h1, h2⟩ := h
  rcases h2 with ⟨h3, h4⟩ | ⟨B, cap', cur, hv, hb, hg, hn, hmx, hs, ht⟩
  · cases h3; omega
  · cases hv
    refine ⟨B, rfl, hb, ⟨g 0, ?_⟩, by simp [World.frozen?, hg]⟩
    have h5 : cur.toList[0]? = (lst .u64 g m)[0]? := by rw [← ht, List.getElem?_take, if_pos (by omega)]
    have h6 : (lst .u64 g m)[0]? = some (.int .u64 (g 0)) := by
      obtain ⟨m', rfl⟩ : ∃ m', m = m' + 1 := ⟨m - 1, by omega⟩
      have hl : 0 < (lst .u64 g (m' + 1)).length := by rw [lst_length]; omega
      obtain ⟨u, hu⟩ : ∃ u, (lst .u64 g (m' + 1))[0]? = some u := ⟨_, List.getElem?_eq_getElem hl⟩
      obtain ⟨_, rfl⟩ := lst_getE hu
      exact hu
    simp only [World.cell?, hg]
    simpa using h5.trans h6
theorem Dw.set {w base y m p u v} (h : Dw w base y m) (hp : w.cell? p = some v) (hv : ∀ i, v ≠ .int .u64 i) : Dw (w.setCell p u) base y m := fun hm => by
  obtain ⟨b, h1, h2, ⟨q, h3⟩, h4⟩ := h hm
  refine ⟨b, h1, h2, ⟨q, ?_⟩, kFs h4⟩
  rw [World.cell?_setCell_other _ _ _ _ (fun he => hv _ (Option.some.inj (hp.symm.trans (he ▸ h3))))]
  exact h3
/-- The same of a number's denominator and numerator. -/
def Dw2 (w : World) (base : Nat) (t : Nm) : Prop := Dw w base t.y t.m ∧ Dw w base t.x t.n
theorem Dw2.below {w w' base t} (h : Dw2 w base t) (hb : Below w.heap.size w w') : Dw2 w' base t := ⟨h.1.below hb, h.2.below hb⟩
theorem Dw2.set {w base t p u v} (h : Dw2 w base t) (hp : w.cell? p = some v) (hv : ∀ i, v ≠ .int .u64 i) : Dw2 (w.setCell p u) base t := ⟨h.1.set hp hv, h.2.set hp hv⟩
/-- What a copied number is. -/
def Cn (w : World) (base : Nat) (t t' : Nm) : Prop := Sn t t' ∧ Rw w t'.x t'.n t'.c t'.f t'.y t'.m t'.d t'.g ∧ Dw2 w base t'
theorem Cn.below {w w' base t t'} (h : Cn w base t t') (hb : Below w.heap.size w w') : Cn w' base t t' := ⟨h.1, h.2.1.below hb, h.2.2.below hb⟩
theorem Cn.set {w base t t' p u v} (h : Cn w base t t') (hp : w.cell? p = some v) (hv : ∀ i, v ≠ .int .u64 i) : Cn (w.setCell p u) base t t' :=
  ⟨h.1, ⟨rd_setne hp hv h.2.1.rx, h.2.1.lx, h.2.1.cx, h.2.1.nx, rd_setne hp hv h.2.1.ry, h.2.1.ly, h.2.1.cy, h.2.1.ny⟩, h.2.2.set hp hv⟩
end Go.Proofs.Ytllpllebmknmpaa
namespace Go.Proofs.Ytllpllebmknmpaa
open Go.RowKit

/-- The first i of k numbers are copied into block B. -/
structure Cp (w : World) (base B i k : Nat) (X X' : Nat → Nm) : Prop where
  row : Rk w B k
  ge : base ≤ B
  el : ∀ j, j < i → C3 w B (j * 3) (.bool (X' j).s) (.slice (X' j).x (X' j).n (X' j).c) (.slice (X' j).y (X' j).m (X' j).d) ∧ Cn w base (X j) (X' j)
theorem Cp.below {w w' base B i k X X'} (h : Cp w base B i k X X') (hb : Below w.heap.size w w') : Cp w' base B i k X X' :=
  ⟨h.row.below hb, h.ge, fun j hj => ⟨(h.el j hj).1.below hb, (h.el j hj).2.below hb⟩⟩
theorem Cp.put {w base B i k X X'} {t : Nm} (h : Cp w base B i k X X') (hi : i < k) (ht : Cn w base (X i) t) :
    Cp (((w.setCell ⟨B, i * 3, none⟩ (.bool t.s)).setCell ⟨B, i * 3 + 1, none⟩ (.slice t.x t.n t.c)).setCell ⟨B, i * 3 + 2, none⟩ (.slice t.y t.m t.d)) base B (i + 1) k X (putN X' i t) := by
  have k1 := h.row.set (o := i * 3) (u := .bool t.s) (fun i h => by cases h)
  have k2 := k1.set (o := i * 3 + 1) (u := .slice t.x t.n t.c) (fun i h => by cases h)
  have k3 := k2.set (o := i * 3 + 2) (u := .slice t.y t.m t.d) (fun i h => by cases h)
  obtain ⟨_, a0, n0⟩ := h.row.has (i * 3) (by omega)
  obtain ⟨_, a1, n1⟩ := k1.has (i * 3 + 1) (by omega)
  obtain ⟨_, a2, n2⟩ := k2.has (i * 3 + 2) (by omega)
  refine ⟨k3, h.ge, fun j hj => ?_⟩
  by_cases e : j = i
  · subst e
    rw [putN_at]
    exact ⟨⟨kCo (by omega) (kCo (by omega) (kCe (kI0 a0))), kCo (by omega) (kCe (kI0 a1)), kCe (kI0 a2)⟩, ((ht.set a0 n0).set a1 n1).set a2 n2⟩
  · rw [putN_ne e]
    obtain ⟨⟨c0, c1, c2⟩, ht'⟩ := h.el j (by omega)
    exact ⟨⟨kCo (by omega) (kCo (by omega) (kCo (by omega) c0)), kCo (by omega) (kCo (by omega) (kCo (by omega) c1)), kCo (by omega) (kCo (by omega) (kCo (by omega) c2))⟩, ((ht'.set a0 n0).set a1 n1).set a2 n2⟩
theorem Cp.rl {w base B k X X'} {ao : Option Addr} {w0 : World} (h : Cp w base B k k X X') (hx : Rl w0 ao k X) : Rl w (some ⟨B, 0, none⟩) k X' := fun j hj => by
  obtain ⟨h1, ⟨_, e2, _, e4, _⟩, h3, _⟩ := h.el j hj
  obtain ⟨_, _, _, _, _, h5, h6⟩ := hx j hj
  exact ⟨B, 0, rfl, by rw [Nat.zero_add]; exact h1, h3, by rw [e2]; exact h5, by rw [e4]; exact h6⟩

/-- What copied answers. -/
def CpAns (w w' : World) (e : Ending) (k : Nat) (X : Nat → Nm) : Prop := ∃ B X', e = .returned (.slice (some ⟨B, 0, none⟩) k k) ∧ Below w.heap.size w w' ∧ Hid (Cp w' w.heap.size B k k X X')
set_option maxRecDepth 100000 in
set_option maxHeartbeats 4000000 in
theorem copied_c {w : World} {ao : Option Addr} {k cap : Nat} {X : Nat → Nm} (h : Rl w ao k X) (hk : k ≤ 1048576) :
    Calls Try.prog 44 #[.slice ao k cap] w fun e w' => CpAns w w' e k X := by
  have H := hid h
  clear h
  go_enter Try.func44, Try.ntmps44
  go_wp2_with (at_make; refine wpList_make_rk _ rfl (.tmp 7) (.tmp 7) 30 rfl 66 56 Try.underlying30 Try.infoRat .i64 .i64 k k k rfl rfl rfl rfl (by omega) (by unfold maxLen; omega) ?_; intro w3 hk3 hb3)
  have HB3 := hid hb3; have HK3 := hid hk3
  clear hk3 hb3
  go_loopw [11] (fun t wr => ∃ (i : Nat) (X' : Nat → Nm), i ≤ k ∧ t = .int .i64 i ∧ Hid (Below w.heap.size w wr) ∧ Hid (Cp wr w.heap.size w.heap.size i k X X')) (fun t _ => k - (intOf t).toNat)
  case atStart => exact ⟨0, X, by omega, rfl, HB3, HK3.out, Nat.le_refl _, fun j hj => by omega⟩
  case round =>
    clear HB3 HK3
    obtain ⟨i, X', hi, rfl, HB, HC⟩ := hrel
    by_cases hlt : i < k
    · obtain ⟨b, o, rfl, hc, hn, hn1, hn2⟩ := (H.out.below HB.out) i hlt
      obtain ⟨⟨s, x, n, c, f, y, m, d, g⟩, hTi⟩ : ∃ t, X i = t := ⟨_, rfl⟩
      rw [hTi] at hc hn hn1 hn2
      obtain ⟨x0, x1, x2⟩ := hc
      replace x0 : wr.cell? ⟨b, o + i * 3, none⟩ = some (.bool s) := x0
      replace x1 : wr.cell? ⟨b, o + i * 3 + 1, none⟩ = some (.slice x n c) := x1
      replace x2 : wr.cell? ⟨b, o + i * 3 + 2, none⟩ = some (.slice y m d) := x2
      replace hn : Rw wr x n c f y m d g := hn
      replace hn1 : n ≤ 65536 := hn1
      replace hn2 : m ≤ 65536 := hn2
      have i1 : ((i : Nat) : Int) < ((k : Nat) : Int) := by omega
      have hb5 := below_alloc (Below.refl wr.heap.size wr) (.cells #[.bool s, .slice x n c, .slice y m d] 66)
      have HN := hid (hn.below hb5); have HTi := hid hTi; have HC5 := hid (HC.out.below hb5); have HB5 := hid (HB.out.trans (hb5.mono HB.out.size))
      have NX := hid hn
      clear hn hTi hb5
      go_wp2_with fail
      clear x0 x1 x2 HB HC
      generalize wr.alloc (.cells #[.bool s, .slice x n c, .slice y m d] 66) = w5 at *
      refine (rCopy_o (sa := s) HN.out (Nat.le_trans hn1 (by decide)) (Nat.le_trans hn2 (by decide))).mono ?_
      rintro e w6 ⟨z6, c6, z7, c7, rfl, hb6, HQ⟩
      have HB6 := hid (HB5.out.trans (hb6.mono HB5.out.size)); have hc6 := HC5.out.below hb6
      have hcn : Cn w6 w.heap.size (X i) ⟨s, z6, n, c6, f, z7, m, c7, g⟩ := by
        rw [HTi.out]
        have q1 := HQ.out.1.slice; have q2 := HQ.out.2.slice
        exact ⟨⟨rfl, rfl, rfl, rfl, rfl⟩, ⟨q1.2.2.2.1, NX.out.lx, ⟨q1.1, q1.2.1⟩, q1.2.2.1, q2.2.2.2.1, NX.out.ly, ⟨q2.1, q2.2.1⟩, q2.2.2.1⟩, own_dw (HQ.out.2.base HB5.out.size), own_dw (HQ.out.1.base HB5.out.size)⟩
      have HP := hid (hc6.put hlt hcn)
      obtain ⟨_, a0, _⟩ := hc6.row.has (i * 3) (by omega)
      obtain ⟨_, a1, _⟩ := hc6.row.has (i * 3 + 1) (by omega)
      obtain ⟨_, a2, _⟩ := hc6.row.has (i * 3 + 2) (by omega)
      have hfz := hc6.row.fz
      clear hb6 HB5 HC5 HN HQ hcn hc6 NX
      go_wp2
      go_roundw
      case rel => exact ⟨i + 1, _, by omega, by go_num, below_at HB6.out (Nat.le_refl _), HP.out⟩
      case measure => simp [intOf]; omega
    · have e1 : i = k := by omega
      have i1 : ¬ (((i : Nat) : Int) < ((k : Nat) : Int)) := by omega
      rw [e1] at HC
      clear e1
      go_wp2
      go_ret
      exact ⟨_, X', rfl, HB.out, HC.out⟩
end Go.Proofs.Ytllpllebmknmpaa
namespace Go.Proofs.Ytllpllebmknmpaa
open Go.RowKit

theorem Dw.kp {w w' base y m} (h : Dw w base y m) (hk : Kp w w') : Dw w' base y m := fun hm => by
  obtain ⟨b, h1, h2, ⟨q, h3⟩, h4⟩ := h hm
  have hl := World.block_lt_of_cell? w _ h3
  rcases hk.block b hl with e | ⟨cur, t, fr, e, hu⟩
  · exact ⟨b, h1, h2, ⟨q, (World.cell?_of_block (a := ⟨b, 0, none⟩) e).trans h3⟩, by simp only [World.frozen?, e] at h4 ⊢; exact h4⟩
  · exfalso
    simp only [World.cell?, e] at h3
    exact hu 0 q (by simpa using h3)
theorem Dw.low {w base base' y m} (h : Dw w base y m) (hb : base' ≤ base) : Dw w base' y m := fun hm => by
  obtain ⟨b, h1, h2, h3⟩ := h hm
  exact ⟨b, h1, Nat.le_trans hb h2, h3⟩
theorem Dw2.kp {w w' base t} (h : Dw2 w base t) (hk : Kp w w') : Dw2 w' base t := ⟨h.1.kp hk, h.2.kp hk⟩
theorem Dw2.low {w base base' t} (h : Dw2 w base t) (hb : base' ≤ base) : Dw2 w base' t := ⟨h.1.low hb, h.2.low hb⟩
theorem Rk.of {w w' B k} (h : Rk w B k) (hB : w'.heap[B]? = w.heap[B]?) : Rk w' B k :=
  ⟨(by
    have h1 := h.z
    rcases Nat.lt_or_ge B w'.heap.size with h2 | h2
    · exact h2
    · rw [Array.getElem?_eq_none h2, Array.getElem?_eq_getElem h1] at hB; cases hB), fun o ho => by obtain ⟨u, h1, h2⟩ := h.has o ho; exact ⟨u, (World.cell?_of_block (a := ⟨B, o, none⟩) hB).trans h1, h2⟩, fun o => by have := h.fz o; simp only [World.frozen?, hB] at this ⊢; exact this⟩
theorem Cp.kp {w w' base B i k X X'} (h : Cp w base B i k X X') (hk : Kp w w') (hB : w'.heap[B]? = w.heap[B]?) : Cp w' base B i k X X' :=
  ⟨h.row.of hB, h.ge, fun j hj => by
    obtain ⟨⟨c0, c1, c2⟩, h1, h2, h3⟩ := h.el j hj
    exact ⟨⟨(World.cell?_of_block (a := ⟨B, j * 3, none⟩) hB).trans c0, (World.cell?_of_block (a := ⟨B, j * 3 + 1, none⟩) hB).trans c1, (World.cell?_of_block (a := ⟨B, j * 3 + 2, none⟩) hB).trans c2⟩, h1, h2.kp hk, h3.kp hk⟩⟩
theorem Cp.low {w base base' B i k X X'} (h : Cp w base B i k X X') (hb : base' ≤ base) : Cp w base' B i k X X' :=
  ⟨h.row, Nat.le_trans hb h.ge, fun j hj => ⟨(h.el j hj).1, (h.el j hj).2.1, (h.el j hj).2.2.1, (h.el j hj).2.2.2.low hb⟩⟩
/-- A list of numbers stays where a box that holds no truth value is written. -/
theorem Rl.st {w w' : World} {ao : Option Addr} {k B : Nat} {X : Nat → Nm} (h : Rl w ao k X) (hk : Kp w w') (hne : ∀ b, b ≠ B → w'.heap[b]? = w.heap[b]?) (hnb : ∀ o s, w.cell? ⟨B, o, none⟩ ≠ some (.bool s)) : Rl w' ao k X := fun j hj => by
  obtain ⟨b, o, e, ⟨c0, c1, c2⟩, h1, h2⟩ := h j hj
  have hB : b ≠ B := fun e => hnb _ _ (e ▸ c0)
  have hs := hne b hB
  exact ⟨b, o, e, ⟨(World.cell?_of_block (a := ⟨b, o + j * 3, none⟩) hs).trans c0, (World.cell?_of_block (a := ⟨b, o + j * 3 + 1, none⟩) hs).trans c1, (World.cell?_of_block (a := ⟨b, o + j * 3 + 2, none⟩) hs).trans c2⟩, h1.kp hk, h2⟩
theorem bk_nob {w B vs t} (h : Bk w B vs t) (hv : ∀ v ∈ vs, ∃ a n c, v = Value.slice a n c) : ∀ o s, w.cell? ⟨B, o, none⟩ ≠ some (.bool s) := fun o s e => by
  unfold Bk at h
  simp only [World.cell?, h] at e
  have e' : vs[o]? = some (.bool s) := by simpa using e
  obtain ⟨a, n, c, h1⟩ := hv _ (List.mem_of_getElem? e')
  cases h1

theorem backL_c {w : World} {B : Nat} {n k : Int} (h : Sk w B n k) (fv : Value) (ao : Option Addr) (l cap : Nat) :
    Calls Try.prog 49 #[.pointer (some ⟨B, 0, none⟩), fv, .slice ao l cap] w fun e w' => e = .returned (.slice ao l cap) ∧ w' = w := by
  have c4 := h.c4
  clear h
  go_enter Try.func49, Try.ntmps49
  go_wp2_with fail
  go_loopw [2, 7] (fun a t wr => a = .slice ao l cap ∧ t = .pointer none ∧ wr = w) (fun _ _ _ => 0)
  case atStart => exact ⟨rfl, rfl, rfl⟩
  case round =>
    obtain ⟨rfl, rfl, rfl⟩ := hrel
    go_wp2
    go_ret
    exact ⟨rfl, rfl⟩

set_option maxRecDepth 100000 in
set_option maxHeartbeats 4000000 in
theorem backP_c {w : World} {B : Nat} {n k : Int} (h : Sk w B n k) (fv : Value) (a0 a1 a2 : Option Addr) (k0 c0 k1 c1 k2 c2 : Nat) :
    Calls Try.prog 36 #[.pointer (some ⟨B, 0, none⟩), fv, .agg #[.slice a0 k0 c0, .slice a1 k1 c1, .slice a2 k2 c2]] w fun e w' => e = .returned (.agg #[.slice a0 k0 c0, .slice a1 k1 c1, .slice a2 k2 c2]) ∧ Below w.heap.size w w' := by
  have hb := below_alloc (below_alloc (Below.refl w.heap.size w) (.cells #[.slice a0 k0 c0, .slice a1 k1 c1, .slice a2 k2 c2] 32)) (.cells #[.slice none 0 0, .slice none 0 0, .slice none 0 0] 32)
  have B1 : Bk ((w.alloc (.cells #[.slice a0 k0 c0, .slice a1 k1 c1, .slice a2 k2 c2] 32)).alloc (.cells #[.slice none 0 0, .slice none 0 0, .slice none 0 0] 32)) w.heap.size [.slice a0 k0 c0, .slice a1 k1 c1, .slice a2 k2 c2] 32 := (bk_new w [.slice a0 k0 c0, .slice a1 k1 c1, .slice a2 k2 c2] 32).below (below_alloc (Below.refl _ _) (.cells #[.slice none 0 0, .slice none 0 0, .slice none 0 0] 32))
  have B2 : Bk ((w.alloc (.cells #[.slice a0 k0 c0, .slice a1 k1 c1, .slice a2 k2 c2] 32)).alloc (.cells #[.slice none 0 0, .slice none 0 0, .slice none 0 0] 32)) (w.heap.size + 1) [.slice none 0 0, .slice none 0 0, .slice none 0 0] 32 := by
    have := bk_new (w.alloc (.cells #[.slice a0 k0 c0, .slice a1 k1 c1, .slice a2 k2 c2] 32)) [.slice none 0 0, .slice none 0 0, .slice none 0 0] 32
    rw [size_alloc1] at this
    exact this
  have hsz : ((w.alloc (.cells #[.slice a0 k0 c0, .slice a1 k1 c1, .slice a2 k2 c2] 32)).alloc (.cells #[.slice none 0 0, .slice none 0 0, .slice none 0 0] 32)).heap.size = w.heap.size + 1 + 1 := by simp
  have hs := h.below hb
  clear h
  go_enter Try.func36, Try.ntmps36
  have hc4 := hs.c4
  go_wp2_with fail
  generalize (w.alloc (.cells #[.slice a0 k0 c0, .slice a1 k1 c1, .slice a2 k2 c2] 32)).alloc (.cells #[.slice none 0 0, .slice none 0 0, .slice none 0 0] 32) = w2 at *
  have r0 := B1.cell (j := 0) rfl
  have r1 := B1.cell (j := 1) rfl
  have r2 := B1.cell (j := 2) rfl
  have l0 := B2.cell (j := 0) rfl
  have l1 := B2.cell (j := 1) rfl
  have l2 := B2.cell (j := 2) rfl
  have ff := B2.frozen
  have HX := hid (st_new [.slice a0 k0 c0, .slice a1 k1 c1, .slice a2 k2 c2] B2 (nou_list (fun u hu q => by simp at hu; first | (subst hu; simp) | (rcases hu with rfl | rfl <;> simp) | (rcases hu with rfl | rfl | rfl <;> simp))) hb (by omega)).1
  clear hs hb B1 B2 hsz
  go_loopw [7] (fun t wr => t = .pointer none ∧ wr = w2) (fun _ _ => 0)
  case atStart => exact ⟨rfl, rfl⟩
  case round =>
    obtain ⟨rfl, rfl⟩ := hrel
    go_wp2
    exact bodyPost_ret (v := .agg #[.slice a0 k0 c0, .slice a1 k1 c1, .slice a2 k2 c2]) (by simp [results, Try.results36, go_sem, l0, l1, l2]) rfl ⟨rfl, HX.out⟩

/-- What it answers. -/
def CpPointAAns (w w' : World) (e : Ending) (k0 : Nat) (X0 : Nat → Nm) (k1 : Nat) (X1 : Nat → Nm) (k2 : Nat) (X2 : Nat → Nm) : Prop := ∃ g0 Y0 g1 Y1 g2 Y2, e = .returned (.agg #[.slice (some ⟨g0, 0, none⟩) k0 k0, .slice (some ⟨g1, 0, none⟩) k1 k1, .slice (some ⟨g2, 0, none⟩) k2 k2]) ∧ Below w.heap.size w w' ∧ Hid (Cp w' w.heap.size g0 k0 k0 X0 Y0 ∧ Cp w' w.heap.size g1 k1 k1 X1 Y1 ∧ Cp w' w.heap.size g2 k2 k2 X2 Y2 ∧ g0 < g1 ∧ g1 < g2)
set_option maxRecDepth 100000 in
set_option maxHeartbeats 4000000 in
theorem cpPointA_c {w : World} {a0 a1 a2 : Option Addr} {k0 c0 k1 c1 k2 c2 : Nat} {X0 X1 X2 : Nat → Nm} (h0 : Rl w a0 k0 X0) (h1 : Rl w a1 k1 X1) (h2 : Rl w a2 k2 X2) (hk0 : k0 ≤ 1048576) (hk1 : k1 ≤ 1048576) (hk2 : k2 ≤ 1048576) :
    Calls Try.prog 37 #[.agg #[.slice a0 k0 c0, .slice a1 k1 c1, .slice a2 k2 c2]] w fun e w' => CpPointAAns w w' e k0 X0 k1 X1 k2 X2 := by
  have C0 := hid (fun W (hW : Below w.heap.size w W) => copied_c (w := W) (cap := c0) (h0.below hW) hk0)
  have C1 := hid (fun W (hW : Below w.heap.size w W) => copied_c (w := W) (cap := c1) (h1.below hW) hk1)
  have C2 := hid (fun W (hW : Below w.heap.size w W) => copied_c (w := W) (cap := c2) (h2.below hW) hk2)
  clear h0 h1 h2
  have hb := below_alloc (below_alloc (Below.refl w.heap.size w) (.cells #[.slice a0 k0 c0, .slice a1 k1 c1, .slice a2 k2 c2] 32)) (.cells #[.slice none 0 0, .slice none 0 0, .slice none 0 0] 32)
  have B1 : Bk ((w.alloc (.cells #[.slice a0 k0 c0, .slice a1 k1 c1, .slice a2 k2 c2] 32)).alloc (.cells #[.slice none 0 0, .slice none 0 0, .slice none 0 0] 32)) w.heap.size [.slice a0 k0 c0, .slice a1 k1 c1, .slice a2 k2 c2] 32 := (bk_new w [.slice a0 k0 c0, .slice a1 k1 c1, .slice a2 k2 c2] 32).below (below_alloc (Below.refl _ _) (.cells #[.slice none 0 0, .slice none 0 0, .slice none 0 0] 32))
  have B2 : Bk ((w.alloc (.cells #[.slice a0 k0 c0, .slice a1 k1 c1, .slice a2 k2 c2] 32)).alloc (.cells #[.slice none 0 0, .slice none 0 0, .slice none 0 0] 32)) (w.heap.size + 1) [.slice none 0 0, .slice none 0 0, .slice none 0 0] 32 := by
    have := bk_new (w.alloc (.cells #[.slice a0 k0 c0, .slice a1 k1 c1, .slice a2 k2 c2] 32)) [.slice none 0 0, .slice none 0 0, .slice none 0 0] 32
    rw [size_alloc1] at this
    exact this
  have hsz : ((w.alloc (.cells #[.slice a0 k0 c0, .slice a1 k1 c1, .slice a2 k2 c2] 32)).alloc (.cells #[.slice none 0 0, .slice none 0 0, .slice none 0 0] 32)).heap.size = w.heap.size + 1 + 1 := by simp
  obtain ⟨P, hP⟩ : ∃ P : Ending → World → Prop, P = fun e w' => CpPointAAns w w' e k0 X0 k1 X1 k2 X2 := ⟨_, rfl⟩
  rw [← hP]
  have HA := hid hP
  clear hP
  go_enter Try.func37, Try.ntmps37
  go_upto_region 1 with fail
  generalize (w.alloc (.cells #[.slice a0 k0 c0, .slice a1 k1 c1, .slice a2 k2 c2] 32)).alloc (.cells #[.slice none 0 0, .slice none 0 0, .slice none 0 0] 32) = w1 at *
  have hbd := Below.drew (Below.refl w1.heap.size w1)
  replace B1 := B1.below hbd; replace B2 := B2.below hbd
  have hsz1 : w1.drew.heap.size = w.heap.size + 1 + 1 := hsz
  have HW := hid (hb.trans (hbd.mono hb.size))
  clear hbd hb hsz
  have r0 := B1.cell (j := 0) rfl
  have r1 := B1.cell (j := 1) rfl
  have r2 := B1.cell (j := 2) rfl
  refine wp_region_held_drew (S := (fun w' => w'.cell? ⟨w.heap.size, 0, none⟩ = some (.slice a0 k0 c0) ∧ w'.cell? ⟨w.heap.size, 1, none⟩ = some (.slice a1 k1 c1) ∧ w'.cell? ⟨w.heap.size, 2, none⟩ = some (.slice a2 k2 c2))) (by kernel_rfl) ?_ (fun hHeld => ?_)
  · exact ⟨r0, r1, r2⟩
  generalize w1.drew = wd at *
  refine wpAnyH_take (i := 0) (v := ?_) rfl (by kernel_rfl) (by kernel_rfl) (by kernel_rfl) (fun _ _ _ h => h) (Or.inl ⟨by rfl, ?_⟩) (by assumption) ?_
  rotate_left
  (focus (intro w0 hSw; (try dsimp only at hSw); go_simp <;> with_reducible rfl))
  simp only [List.getElem_toArray, List.getElem_cons_zero, Act.put, List.setIfInBounds_toArray, List.set_cons_zero, List.set_cons_succ]
  refine wpAnyH_take (i := 1) (v := ?_) rfl (by kernel_rfl) (by kernel_rfl) (by kernel_rfl) (fun _ _ _ h => h) (Or.inl ⟨by rfl, ?_⟩) (by assumption) ?_
  rotate_left
  (focus (intro w0 hSw; (try dsimp only at hSw); go_simp <;> with_reducible rfl))
  simp only [List.getElem_toArray, List.getElem_cons_succ, List.getElem_cons_zero, Act.put, List.setIfInBounds_toArray, List.set_cons_zero, List.set_cons_succ]
  refine wpAnyH_take (i := 3) (v := ?_) rfl (by kernel_rfl) (by kernel_rfl) (by kernel_rfl) (fun _ _ _ h => h) (Or.inl ⟨by rfl, ?_⟩) (by assumption) ?_
  rotate_left
  (focus (intro w0 hSw; (try dsimp only at hSw); go_simp <;> with_reducible rfl))
  simp only [List.getElem_toArray, List.getElem_cons_succ, List.getElem_cons_zero, Act.put, List.setIfInBounds_toArray, List.set_cons_zero, List.set_cons_succ]
  refine wpAnyH_take (i := 4) (v := ?_) rfl (by kernel_rfl) (by kernel_rfl) (by kernel_rfl) (fun _ _ _ h => h) (Or.inl ⟨by rfl, ?_⟩) (by assumption) ?_
  rotate_left
  (focus (intro w0 hSw; (try dsimp only at hSw); go_simp <;> with_reducible rfl))
  simp only [List.getElem_toArray, List.getElem_cons_succ, List.getElem_cons_zero, Act.put, List.setIfInBounds_toArray, List.set_cons_zero, List.set_cons_succ]
  refine wpAnyH_take (i := 6) (v := ?_) rfl (by kernel_rfl) (by kernel_rfl) (by kernel_rfl) (fun _ _ _ h => h) (Or.inl ⟨by rfl, ?_⟩) (by assumption) ?_
  rotate_left
  (focus (intro w0 hSw; (try dsimp only at hSw); go_simp <;> with_reducible rfl))
  simp only [List.getElem_toArray, List.getElem_cons_succ, List.getElem_cons_zero, Act.put, List.setIfInBounds_toArray, List.set_cons_zero, List.set_cons_succ]
  refine wpAnyH_take (i := 7) (v := ?_) rfl (by kernel_rfl) (by kernel_rfl) (by kernel_rfl) (fun _ _ _ h => h) (Or.inl ⟨by rfl, ?_⟩) (by assumption) ?_
  rotate_left
  (focus (intro w0 hSw; (try dsimp only at hSw); go_simp <;> with_reducible rfl))
  simp only [List.getElem_toArray, List.getElem_cons_succ, List.getElem_cons_zero, Act.put, List.setIfInBounds_toArray, List.set_cons_zero, List.set_cons_succ]
  refine wpAnyH_ready (rs := [2]) (by kernel_rfl) (by simp) ?_
  refine AllReadyH.cons (o := _) rfl (fun K hK => ?_) ?_
  rotate_left
  exact AllReadyH.nil
  go_simp
  go_at_call 44
  refine (C0.out _ HW.out).mono ?_
  rintro e w2 ⟨g0, Y0, rfl, hb0, HQ0⟩
  replace B1 := B1.below hb0; replace B2 := B2.below hb0
  have HW0 := hid (HW.out.trans (hb0.mono HW.out.size))
  have hs0 : wd.heap.size ≤ w2.heap.size := hb0.size
  have hg0 : g0 < w2.heap.size := HQ0.out.row.z
  (try go_wp2_with fail)
  refine hK.out _ _ ?_ (fun hH0 => ?_)
  · ((try dsimp only); (refine ⟨?_, ?_, ?_⟩ <;> repeat (with_reducible first | assumption | refine kCb (by assumption) ?_)))
  clear hK K
  try simp only [Act.put, List.setIfInBounds_toArray, List.set_cons_zero, List.set_cons_succ]
  refine wpAnyH_ready (rs := [5]) (by kernel_rfl) (by simp) ?_
  refine AllReadyH.cons (o := _) rfl (fun K hK => ?_) ?_
  rotate_left
  exact AllReadyH.nil
  go_simp
  go_at_call 44
  refine (C1.out _ HW0.out).mono ?_
  rintro e w3 ⟨g1, Y1, rfl, hb1, HQ1⟩
  replace B1 := B1.below hb1; replace B2 := B2.below hb1
  have HW1 := hid (HW0.out.trans (hb1.mono HW0.out.size))
  have hs1 : w2.heap.size ≤ w3.heap.size := hb1.size
  have hg1 : g1 < w3.heap.size := HQ1.out.row.z
  have hx11 := HQ1.out.ge
  replace HQ0 := hid (HQ0.out.below hb1)
  (try go_wp2_with fail)
  refine hK.out _ _ ?_ (fun hH1 => ?_)
  · ((try dsimp only); (refine ⟨?_, ?_, ?_⟩ <;> repeat (with_reducible first | assumption | refine kCb (by assumption) ?_)))
  clear hK K
  try simp only [Act.put, List.setIfInBounds_toArray, List.set_cons_zero, List.set_cons_succ]
  refine wpAnyH_ready (rs := [8]) (by kernel_rfl) (by simp) ?_
  refine AllReadyH.cons (o := _) rfl (fun K hK => ?_) ?_
  rotate_left
  exact AllReadyH.nil
  go_simp
  go_at_call 44
  refine (C2.out _ HW1.out).mono ?_
  rintro e w4 ⟨g2, Y2, rfl, hb2, HQ2⟩
  replace B1 := B1.below hb2; replace B2 := B2.below hb2
  have HW2 := hid (HW1.out.trans (hb2.mono HW1.out.size))
  have hs2 : w3.heap.size ≤ w4.heap.size := hb2.size
  have hg2 : g2 < w4.heap.size := HQ2.out.row.z
  have hx12 := HQ2.out.ge
  replace HQ0 := hid (HQ0.out.below hb2)
  replace HQ1 := hid (HQ1.out.below hb2)
  (try go_wp2_with fail)
  refine hK.out _ _ ?_ (fun hH2 => ?_)
  · ((try dsimp only); (refine ⟨?_, ?_, ?_⟩ <;> repeat (with_reducible first | assumption | refine kCb (by assumption) ?_)))
  clear hK K
  try simp only [Act.put, List.setIfInBounds_toArray, List.set_cons_zero, List.set_cons_succ]
  refine wpAnyH_take (i := 9) (v := ?_) rfl (by kernel_rfl) (by kernel_rfl) (by kernel_rfl) (fun _ _ _ h => h) (Or.inl ⟨by rfl, ?_⟩) (by assumption) ?_
  rotate_left
  (focus (intro w0 hSw; (try dsimp only at hSw); go_simp <;> with_reducible rfl))
  simp only [List.getElem_toArray, List.getElem_cons_succ, List.getElem_cons_zero, Act.put, List.setIfInBounds_toArray, List.set_cons_zero, List.set_cons_succ]
  have l0 := B2.cell (j := 0) rfl
  have l1 := B2.cell (j := 1) rfl
  have l2 := B2.cell (j := 2) rfl
  have ff := B2.frozen
  refine wpAnyH_ready (rs := [10]) (by kernel_rfl) (by simp) ?_
  refine AllReadyH.cons (o := _) rfl (fun K hK => ?_) ?_
  rotate_left
  exact AllReadyH.nil
  go_simp
  obtain ⟨hx1, hx2, hx3⟩ := st_new [.slice (some ⟨g0, 0, none⟩) k0 k0, .slice (some ⟨g1, 0, none⟩) k1 k1, .slice (some ⟨g2, 0, none⟩) k2 k2] B2 (nou_list (fun u hu q => by simp at hu; first | (subst hu; simp) | (rcases hu with rfl | rfl <;> simp) | (rcases hu with rfl | rfl | rfl <;> simp))) HW2.out (Nat.le_succ _)
  have hnb := bk_nob B2 (fun v hv => by simp at hv; subst hv; exact ⟨_, _, _, rfl⟩)
  have B9 := stl_bk [.slice (some ⟨g0, 0, none⟩) k0 k0, .slice (some ⟨g1, 0, none⟩) k1 k1, .slice (some ⟨g2, 0, none⟩) k2 k2] _ 0 _ rfl B2
  obtain ⟨w9, hw9⟩ : ∃ x, stl (w.heap.size + 1) 0 [.slice (some ⟨g0, 0, none⟩) k0 k0, .slice (some ⟨g1, 0, none⟩) k1 k1, .slice (some ⟨g2, 0, none⟩) k2 k2] w4 = x := ⟨_, rfl⟩
  rw [show (((w4.setCell ⟨w.heap.size + 1, 0, none⟩ (.slice (some ⟨g0, 0, none⟩) k0 k0)).setCell ⟨w.heap.size + 1, 1, none⟩ (.slice (some ⟨g1, 0, none⟩) k1 k1)).setCell ⟨w.heap.size + 1, 2, none⟩ (.slice (some ⟨g2, 0, none⟩) k2 k2)) = w9 from hw9]
  rw [hw9] at hx1 hx2 hx3 B9
  replace B9 : Bk w9 (w.heap.size + 1) [.slice (some ⟨g0, 0, none⟩) k0 k0, .slice (some ⟨g1, 0, none⟩) k1 k1, .slice (some ⟨g2, 0, none⟩) k2 k2] _ := B9
  have B8 := B1.of (hx3 w.heap.size (by omega))
  have e0 := B8.cell (j := 0) rfl
  have e1 := B8.cell (j := 1) rfl
  have e2 := B8.cell (j := 2) rfl
  clear hw9 ff l0 l1 l2
  refine hK.out _ _ ⟨e0, e1, e2⟩ (fun hH9 => ?_)
  clear hK K
  try simp only [Act.put]
  have l0 := B9.cell (j := 0) rfl
  have l1 := B9.cell (j := 1) rfl
  have l2 := B9.cell (j := 2) rfl
  refine wpAnyH_done (by kernel_rfl) ?_ _
  have HX : Hid (P (.returned (.agg #[.slice (some ⟨g0, 0, none⟩) k0 k0, .slice (some ⟨g1, 0, none⟩) k1 k1, .slice (some ⟨g2, 0, none⟩) k2 k2])) w9) := by
    rw [HA.out]
    exact ⟨g0, Y0, g1, Y1, g2, Y2, rfl, hx1, (HQ0.out.low HW.out.size).kp hx2 (hx3 _ (by have := HQ0.out.ge; omega)), (HQ1.out.low HW0.out.size).kp hx2 (hx3 _ (by have := HQ1.out.ge; omega)), (HQ2.out.low HW1.out.size).kp hx2 (hx3 _ (by have := HQ2.out.ge; omega)), by omega, by omega⟩
  clear hx1 hx2 hx3 hnb B1 B2 B8 hHeld hH9 HW HA HQ0 C0 HW0 hH0 hb0 HQ1 C1 HW1 hH1 hb1 HQ2 C2 HW2 hH2 hb2
  go_wp2
  exact bodyPost_ret (v := .agg #[.slice (some ⟨g0, 0, none⟩) k0 k0, .slice (some ⟨g1, 0, none⟩) k1 k1, .slice (some ⟨g2, 0, none⟩) k2 k2]) (by simp [results, Try.results37, go_sem, l0, l1, l2]) rfl HX.out
/-- What it answers. -/
def TwPointAns (w w' : World) (e : Ending) (k0 : Nat) (X0 : Nat → Nm) (k1 : Nat) (X1 : Nat → Nm) (k2 : Nat) (X2 : Nat → Nm) : Prop := ∃ b0 d0 Y0 b1 d1 Y1 b2 d2 Y2, e = .returned (.agg #[.slice b0 k0 d0, .slice b1 k1 d1, .slice b2 k2 d2]) ∧ Below w.heap.size w w' ∧ ((k0 ≤ d0 ∧ d0 ≤ 9223372036854775807) ∧ (k1 ≤ d1 ∧ d1 ≤ 9223372036854775807) ∧ (k2 ≤ d2 ∧ d2 ≤ 9223372036854775807)) ∧ Hid ((Rl w' b0 k0 Y0 ∧ ∀ j, j < k0 → Sn (X0 j) (Y0 j)) ∧ (Rl w' b1 k1 Y1 ∧ ∀ j, j < k1 → Sn (X1 j) (Y1 j)) ∧ (Rl w' b2 k2 Y2 ∧ ∀ j, j < k2 → Sn (X2 j) (Y2 j)))
set_option maxRecDepth 100000 in
set_option maxHeartbeats 4000000 in
theorem twPoint_c {w : World} {a0 a1 a2 : Option Addr} {k0 c0 k1 c1 k2 c2 : Nat} {X0 X1 X2 : Nat → Nm} (h0 : Rl w a0 k0 X0) (h1 : Rl w a1 k1 X1) (h2 : Rl w a2 k2 X2) (hk0 : k0 ≤ 10000) (hk1 : k1 ≤ 10000) (hk2 : k2 ≤ 10000) (hl0 : ∀ j, j < k0 → (X0 j).n ≤ 1000 ∧ (X0 j).m ≤ 1000) (hl1 : ∀ j, j < k1 → (X1 j).n ≤ 1000 ∧ (X1 j).m ≤ 1000) (hl2 : ∀ j, j < k2 → (X2 j).n ≤ 1000 ∧ (X2 j).m ≤ 1000) :
    Calls Try.prog 19 #[.agg #[.slice a0 k0 c0, .slice a1 k1 c1, .slice a2 k2 c2]] w fun e w' => TwPointAns w w' e k0 X0 k1 X1 k2 X2 := by
  have C0 := hid (fun W (hW : Below w.heap.size w W) => twins_c (w := W) (cap := c0) (h0.below hW) hk0 hl0)
  have C1 := hid (fun W (hW : Below w.heap.size w W) => twins_c (w := W) (cap := c1) (h1.below hW) hk1 hl1)
  have C2 := hid (fun W (hW : Below w.heap.size w W) => twins_c (w := W) (cap := c2) (h2.below hW) hk2 hl2)
  clear h0 h1 h2
  have hb := below_alloc (below_alloc (Below.refl w.heap.size w) (.cells #[.slice a0 k0 c0, .slice a1 k1 c1, .slice a2 k2 c2] 32)) (.cells #[.slice none 0 0, .slice none 0 0, .slice none 0 0] 32)
  have B1 : Bk ((w.alloc (.cells #[.slice a0 k0 c0, .slice a1 k1 c1, .slice a2 k2 c2] 32)).alloc (.cells #[.slice none 0 0, .slice none 0 0, .slice none 0 0] 32)) w.heap.size [.slice a0 k0 c0, .slice a1 k1 c1, .slice a2 k2 c2] 32 := (bk_new w [.slice a0 k0 c0, .slice a1 k1 c1, .slice a2 k2 c2] 32).below (below_alloc (Below.refl _ _) (.cells #[.slice none 0 0, .slice none 0 0, .slice none 0 0] 32))
  have B2 : Bk ((w.alloc (.cells #[.slice a0 k0 c0, .slice a1 k1 c1, .slice a2 k2 c2] 32)).alloc (.cells #[.slice none 0 0, .slice none 0 0, .slice none 0 0] 32)) (w.heap.size + 1) [.slice none 0 0, .slice none 0 0, .slice none 0 0] 32 := by
    have := bk_new (w.alloc (.cells #[.slice a0 k0 c0, .slice a1 k1 c1, .slice a2 k2 c2] 32)) [.slice none 0 0, .slice none 0 0, .slice none 0 0] 32
    rw [size_alloc1] at this
    exact this
  have hsz : ((w.alloc (.cells #[.slice a0 k0 c0, .slice a1 k1 c1, .slice a2 k2 c2] 32)).alloc (.cells #[.slice none 0 0, .slice none 0 0, .slice none 0 0] 32)).heap.size = w.heap.size + 1 + 1 := by simp
  obtain ⟨P, hP⟩ : ∃ P : Ending → World → Prop, P = fun e w' => TwPointAns w w' e k0 X0 k1 X1 k2 X2 := ⟨_, rfl⟩
  rw [← hP]
  have HA := hid hP
  clear hP
  go_enter Try.func19, Try.ntmps19
  go_upto_region 1 with fail
  generalize (w.alloc (.cells #[.slice a0 k0 c0, .slice a1 k1 c1, .slice a2 k2 c2] 32)).alloc (.cells #[.slice none 0 0, .slice none 0 0, .slice none 0 0] 32) = w1 at *
  have hbd := Below.drew (Below.refl w1.heap.size w1)
  replace B1 := B1.below hbd; replace B2 := B2.below hbd
  have hsz1 : w1.drew.heap.size = w.heap.size + 1 + 1 := hsz
  have HW := hid (hb.trans (hbd.mono hb.size))
  clear hbd hb hsz
  have r0 := B1.cell (j := 0) rfl
  have r1 := B1.cell (j := 1) rfl
  have r2 := B1.cell (j := 2) rfl
  refine wp_region_held_drew (S := (fun w' => w'.cell? ⟨w.heap.size, 0, none⟩ = some (.slice a0 k0 c0) ∧ w'.cell? ⟨w.heap.size, 1, none⟩ = some (.slice a1 k1 c1) ∧ w'.cell? ⟨w.heap.size, 2, none⟩ = some (.slice a2 k2 c2))) (by kernel_rfl) ?_ (fun hHeld => ?_)
  · exact ⟨r0, r1, r2⟩
  generalize w1.drew = wd at *
  refine wpAnyH_take (i := 0) (v := ?_) rfl (by kernel_rfl) (by kernel_rfl) (by kernel_rfl) (fun _ _ _ h => h) (Or.inl ⟨by rfl, ?_⟩) (by assumption) ?_
  rotate_left
  (focus (intro w0 hSw; (try dsimp only at hSw); go_simp <;> with_reducible rfl))
  simp only [List.getElem_toArray, List.getElem_cons_zero, Act.put, List.setIfInBounds_toArray, List.set_cons_zero, List.set_cons_succ]
  refine wpAnyH_take (i := 1) (v := ?_) rfl (by kernel_rfl) (by kernel_rfl) (by kernel_rfl) (fun _ _ _ h => h) (Or.inl ⟨by rfl, ?_⟩) (by assumption) ?_
  rotate_left
  (focus (intro w0 hSw; (try dsimp only at hSw); go_simp <;> with_reducible rfl))
  simp only [List.getElem_toArray, List.getElem_cons_succ, List.getElem_cons_zero, Act.put, List.setIfInBounds_toArray, List.set_cons_zero, List.set_cons_succ]
  refine wpAnyH_take (i := 3) (v := ?_) rfl (by kernel_rfl) (by kernel_rfl) (by kernel_rfl) (fun _ _ _ h => h) (Or.inl ⟨by rfl, ?_⟩) (by assumption) ?_
  rotate_left
  (focus (intro w0 hSw; (try dsimp only at hSw); go_simp <;> with_reducible rfl))
  simp only [List.getElem_toArray, List.getElem_cons_succ, List.getElem_cons_zero, Act.put, List.setIfInBounds_toArray, List.set_cons_zero, List.set_cons_succ]
  refine wpAnyH_take (i := 4) (v := ?_) rfl (by kernel_rfl) (by kernel_rfl) (by kernel_rfl) (fun _ _ _ h => h) (Or.inl ⟨by rfl, ?_⟩) (by assumption) ?_
  rotate_left
  (focus (intro w0 hSw; (try dsimp only at hSw); go_simp <;> with_reducible rfl))
  simp only [List.getElem_toArray, List.getElem_cons_succ, List.getElem_cons_zero, Act.put, List.setIfInBounds_toArray, List.set_cons_zero, List.set_cons_succ]
  refine wpAnyH_take (i := 6) (v := ?_) rfl (by kernel_rfl) (by kernel_rfl) (by kernel_rfl) (fun _ _ _ h => h) (Or.inl ⟨by rfl, ?_⟩) (by assumption) ?_
  rotate_left
  (focus (intro w0 hSw; (try dsimp only at hSw); go_simp <;> with_reducible rfl))
  simp only [List.getElem_toArray, List.getElem_cons_succ, List.getElem_cons_zero, Act.put, List.setIfInBounds_toArray, List.set_cons_zero, List.set_cons_succ]
  refine wpAnyH_take (i := 7) (v := ?_) rfl (by kernel_rfl) (by kernel_rfl) (by kernel_rfl) (fun _ _ _ h => h) (Or.inl ⟨by rfl, ?_⟩) (by assumption) ?_
  rotate_left
  (focus (intro w0 hSw; (try dsimp only at hSw); go_simp <;> with_reducible rfl))
  simp only [List.getElem_toArray, List.getElem_cons_succ, List.getElem_cons_zero, Act.put, List.setIfInBounds_toArray, List.set_cons_zero, List.set_cons_succ]
  refine wpAnyH_ready (rs := [2]) (by kernel_rfl) (by simp) ?_
  refine AllReadyH.cons (o := _) rfl (fun K hK => ?_) ?_
  rotate_left
  exact AllReadyH.nil
  go_simp
  go_at_call 14
  refine (C0.out _ HW.out).mono ?_
  rintro e w2 ⟨b0, d0, Y0, rfl, hb0, hd0, HQ0⟩
  replace B1 := B1.below hb0; replace B2 := B2.below hb0
  have HW0 := hid (HW.out.trans (hb0.mono HW.out.size))
  (try go_wp2_with fail)
  refine hK.out _ _ ?_ (fun hH0 => ?_)
  · ((try dsimp only); (refine ⟨?_, ?_, ?_⟩ <;> repeat (with_reducible first | assumption | refine kCb (by assumption) ?_)))
  clear hK K
  try simp only [Act.put, List.setIfInBounds_toArray, List.set_cons_zero, List.set_cons_succ]
  refine wpAnyH_ready (rs := [5]) (by kernel_rfl) (by simp) ?_
  refine AllReadyH.cons (o := _) rfl (fun K hK => ?_) ?_
  rotate_left
  exact AllReadyH.nil
  go_simp
  go_at_call 14
  refine (C1.out _ HW0.out).mono ?_
  rintro e w3 ⟨b1, d1, Y1, rfl, hb1, hd1, HQ1⟩
  replace B1 := B1.below hb1; replace B2 := B2.below hb1
  have HW1 := hid (HW0.out.trans (hb1.mono HW0.out.size))
  replace HQ0 : Hid (Rl w3 b0 k0 Y0 ∧ ∀ j, j < k0 → Sn (X0 j) (Y0 j)) := ⟨HQ0.out.1.below hb1, HQ0.out.2⟩
  (try go_wp2_with fail)
  refine hK.out _ _ ?_ (fun hH1 => ?_)
  · ((try dsimp only); (refine ⟨?_, ?_, ?_⟩ <;> repeat (with_reducible first | assumption | refine kCb (by assumption) ?_)))
  clear hK K
  try simp only [Act.put, List.setIfInBounds_toArray, List.set_cons_zero, List.set_cons_succ]
  refine wpAnyH_ready (rs := [8]) (by kernel_rfl) (by simp) ?_
  refine AllReadyH.cons (o := _) rfl (fun K hK => ?_) ?_
  rotate_left
  exact AllReadyH.nil
  go_simp
  go_at_call 14
  refine (C2.out _ HW1.out).mono ?_
  rintro e w4 ⟨b2, d2, Y2, rfl, hb2, hd2, HQ2⟩
  replace B1 := B1.below hb2; replace B2 := B2.below hb2
  have HW2 := hid (HW1.out.trans (hb2.mono HW1.out.size))
  replace HQ0 : Hid (Rl w4 b0 k0 Y0 ∧ ∀ j, j < k0 → Sn (X0 j) (Y0 j)) := ⟨HQ0.out.1.below hb2, HQ0.out.2⟩
  replace HQ1 : Hid (Rl w4 b1 k1 Y1 ∧ ∀ j, j < k1 → Sn (X1 j) (Y1 j)) := ⟨HQ1.out.1.below hb2, HQ1.out.2⟩
  (try go_wp2_with fail)
  refine hK.out _ _ ?_ (fun hH2 => ?_)
  · ((try dsimp only); (refine ⟨?_, ?_, ?_⟩ <;> repeat (with_reducible first | assumption | refine kCb (by assumption) ?_)))
  clear hK K
  try simp only [Act.put, List.setIfInBounds_toArray, List.set_cons_zero, List.set_cons_succ]
  refine wpAnyH_take (i := 9) (v := ?_) rfl (by kernel_rfl) (by kernel_rfl) (by kernel_rfl) (fun _ _ _ h => h) (Or.inl ⟨by rfl, ?_⟩) (by assumption) ?_
  rotate_left
  (focus (intro w0 hSw; (try dsimp only at hSw); go_simp <;> with_reducible rfl))
  simp only [List.getElem_toArray, List.getElem_cons_succ, List.getElem_cons_zero, Act.put, List.setIfInBounds_toArray, List.set_cons_zero, List.set_cons_succ]
  have l0 := B2.cell (j := 0) rfl
  have l1 := B2.cell (j := 1) rfl
  have l2 := B2.cell (j := 2) rfl
  have ff := B2.frozen
  refine wpAnyH_ready (rs := [10]) (by kernel_rfl) (by simp) ?_
  refine AllReadyH.cons (o := _) rfl (fun K hK => ?_) ?_
  rotate_left
  exact AllReadyH.nil
  go_simp
  obtain ⟨hx1, hx2, hx3⟩ := st_new [.slice b0 k0 d0, .slice b1 k1 d1, .slice b2 k2 d2] B2 (nou_list (fun u hu q => by simp at hu; first | (subst hu; simp) | (rcases hu with rfl | rfl <;> simp) | (rcases hu with rfl | rfl | rfl <;> simp))) HW2.out (Nat.le_succ _)
  have hnb := bk_nob B2 (fun v hv => by simp at hv; subst hv; exact ⟨_, _, _, rfl⟩)
  have B9 := stl_bk [.slice b0 k0 d0, .slice b1 k1 d1, .slice b2 k2 d2] _ 0 _ rfl B2
  obtain ⟨w9, hw9⟩ : ∃ x, stl (w.heap.size + 1) 0 [.slice b0 k0 d0, .slice b1 k1 d1, .slice b2 k2 d2] w4 = x := ⟨_, rfl⟩
  rw [show (((w4.setCell ⟨w.heap.size + 1, 0, none⟩ (.slice b0 k0 d0)).setCell ⟨w.heap.size + 1, 1, none⟩ (.slice b1 k1 d1)).setCell ⟨w.heap.size + 1, 2, none⟩ (.slice b2 k2 d2)) = w9 from hw9]
  rw [hw9] at hx1 hx2 hx3 B9
  replace B9 : Bk w9 (w.heap.size + 1) [.slice b0 k0 d0, .slice b1 k1 d1, .slice b2 k2 d2] _ := B9
  have B8 := B1.of (hx3 w.heap.size (by omega))
  have e0 := B8.cell (j := 0) rfl
  have e1 := B8.cell (j := 1) rfl
  have e2 := B8.cell (j := 2) rfl
  clear hw9 ff l0 l1 l2
  refine hK.out _ _ ⟨e0, e1, e2⟩ (fun hH9 => ?_)
  clear hK K
  try simp only [Act.put]
  have l0 := B9.cell (j := 0) rfl
  have l1 := B9.cell (j := 1) rfl
  have l2 := B9.cell (j := 2) rfl
  refine wpAnyH_done (by kernel_rfl) ?_ _
  have HX : Hid (P (.returned (.agg #[.slice b0 k0 d0, .slice b1 k1 d1, .slice b2 k2 d2])) w9) := by
    rw [HA.out]
    exact ⟨b0, d0, Y0, b1, d1, Y1, b2, d2, Y2, rfl, hx1, ⟨hd0, hd1, hd2⟩, ⟨HQ0.out.1.st hx2 hx3 hnb, HQ0.out.2⟩, ⟨HQ1.out.1.st hx2 hx3 hnb, HQ1.out.2⟩, ⟨HQ2.out.1.st hx2 hx3 hnb, HQ2.out.2⟩⟩
  clear hx1 hx2 hx3 hnb B1 B2 B8 hHeld hH9 HW HA HQ0 C0 HW0 hH0 hb0 HQ1 C1 HW1 hH1 hb1 HQ2 C2 HW2 hH2 hb2
  go_wp2
  exact bodyPost_ret (v := .agg #[.slice b0 k0 d0, .slice b1 k1 d1, .slice b2 k2 d2]) (by simp [results, Try.results19, go_sem, l0, l1, l2]) rfl HX.out

end Go.Proofs.Ytllpllebmknmpaa
namespace Go.Proofs.Ytllpllebmknmpaa
open Go.RowKit

/-- What Primal and Lift answer: the list itself, copied, or its error. -/
def NumAns (w w' : World) (e : Ending) (l : Nat) (X : Nat → Nm) (z : Int) : Prop := Below w.heap.size w w' ∧
  ((pnE l X z ≠ 0 ∧ e = .returned (.tuple #[.slice none 0 0, .int .i64 (pnE l X z)])) ∨ (pnE l X z = 0 ∧ ∃ g Y, e = .returned (.tuple #[.slice (some ⟨g, 0, none⟩) l l, .int .i64 0]) ∧ Cp w' w.heap.size g l l X Y))
set_option maxRecDepth 100000 in
set_option maxHeartbeats 4000000 in
theorem snumbers_c {w : World} {B : Nat} {n k : Int} {ao : Option Addr} {l cap : Nat} {X : Nat → Nm} (hs : Sk w B n k) (h : Rl w ao l X) (hl : l ≤ 1048576) (fv : Value) :
    Calls Try.prog 32 #[.pointer (some ⟨B, 0, none⟩), fv, .slice ao l cap] w fun e w' => NumAns w w' e l X n := by
  have H := hid h; have HS := hid hs
  have c2 := hs.c2
  clear h hs
  obtain ⟨er, her⟩ : ∃ e, pnE l X n = e := ⟨_, rfl⟩
  have HE := hid her
  have CN := hid (pNumbers_c (cap := cap) (z := n) H.out hl)
  rw [her] at CN
  clear her
  go_enter Try.func32, Try.ntmps32
  go_wp2_with fail
  refine CN.out.mono ?_
  rintro e w1 ⟨rfl, hb1⟩
  have HB1 := hid hb1
  clear hb1 c2
  by_cases h0 : er = 0
  · subst h0
    go_wp2_with fail
    refine (copied_c (cap := cap) (H.out.below HB1.out) hl).mono ?_
    rintro e w2 ⟨g, Y, rfl, hb2, HC⟩
    have HB2 := hid (HB1.out.trans (hb2.mono HB1.out.size))
    clear hb2
    go_wp2_with fail
    refine (backL_c (HS.out.below HB2.out) fv _ l l).mono ?_
    rintro e w3 ⟨rfl, rfl⟩
    go_wp2
    go_ret2
    exact ⟨HB2.out, .inr ⟨HE.out, g, Y, rfl, HC.out.low HB1.out.size⟩⟩
  · have h1 : (er != 0) = true := by simpa using h0
    go_wp2
    go_ret2
    exact ⟨HB1.out, .inl ⟨by rw [HE.out]; exact h0, by rw [HE.out]; rfl⟩⟩
theorem sprimal_c {w : World} {B : Nat} {n k : Int} {ao : Option Addr} {l cap : Nat} {X : Nat → Nm} (hs : Sk w B n k) (h : Rl w ao l X) (hl : l ≤ 1048576) :
    Calls Try.prog 13 #[.pointer (some ⟨B, 0, none⟩), .slice ao l cap] w fun e w' => NumAns w w' e l X n := by
  have H := hid h; have HS := hid hs
  clear h hs
  go_enter Try.func13, Try.ntmps13
  go_wp2_with fail
  refine (snumbers_c HS.out H.out hl _).mono ?_
  rintro e w1 ⟨hb1, ⟨h0, rfl⟩ | ⟨h0, g, Y, rfl, hc⟩⟩
  · have HB := hid hb1; have H0 := hid h0
    clear hb1 h0
    go_wp2
    go_ret2
    exact ⟨HB.out, .inl ⟨H0.out, rfl⟩⟩
  · have HB := hid hb1; have H0 := hid h0; have HC := hid hc
    clear hb1 h0 hc
    go_wp2
    go_ret2
    exact ⟨HB.out, .inr ⟨H0.out, g, Y, rfl, HC.out⟩⟩
def tri (e0 e1 e2 : Int) (j : Nat) : Int := if j = 0 then e0 else if j = 1 then e1 else e2
theorem tri_el {w : World} {e0 e1 e2 : Int} {t : TypeId} : El (w.alloc (.cells #[.int .i64 e0, .int .i64 e1, .int .i64 e2] t)) (some ⟨w.heap.size, 0, none⟩) 3 (tri e0 e1 e2) := fun j hj => by
  refine ⟨_, 0, rfl, ?_⟩
  match j, hj with
  | 0, _ => simp [go_sem, tri]
  | 1, _ => simp [go_sem, tri]
  | 2, _ => simp [go_sem, tri]
/-- The error of a point that is handed in. -/
def ptE (n k : Int) (k0 : Nat) (X0 : Nat → Nm) (k1 : Nat) (X1 : Nat → Nm) (k2 : Nat) (X2 : Nat → Nm) : Int := lsf (tri (pnE k0 X0 n) (pnE k1 X1 k) (pnE k2 X2 n)) 3
set_option maxRecDepth 100000 in
set_option maxHeartbeats 4000000 in
theorem checkPoint_c {w : World} {B : Nat} {n k : Int} {a0 a1 a2 : Option Addr} {k0 c0 k1 c1 k2 c2 : Nat} {X0 X1 X2 : Nat → Nm} (hs : Sk w B n k) (h0 : Rl w a0 k0 X0) (h1 : Rl w a1 k1 X1) (h2 : Rl w a2 k2 X2) (hk0 : k0 ≤ 1048576) (hk1 : k1 ≤ 1048576) (hk2 : k2 ≤ 1048576) :
    Calls Try.prog 35 #[.pointer (some ⟨B, 0, none⟩), .agg #[.slice a0 k0 c0, .slice a1 k1 c1, .slice a2 k2 c2]] w fun e w' => e = .returned (.int .i64 (ptE n k k0 X0 k1 X1 k2 X2)) ∧ Below w.heap.size w w' := by
  have C0 := hid (fun W (hW : Below w.heap.size w W) => pNumbers_c (w := W) (cap := c0) (z := n) (h0.below hW) hk0)
  have C1 := hid (fun W (hW : Below w.heap.size w W) => pNumbers_c (w := W) (cap := c1) (z := k) (h1.below hW) hk1)
  have C2 := hid (fun W (hW : Below w.heap.size w W) => pNumbers_c (w := W) (cap := c2) (z := n) (h2.below hW) hk2)
  clear h0 h1 h2
  unfold ptE
  obtain ⟨e0, he0⟩ : ∃ e, pnE k0 X0 n = e := ⟨_, rfl⟩
  rw [he0] at C0 ⊢
  clear he0
  obtain ⟨e1, he1⟩ : ∃ e, pnE k1 X1 k = e := ⟨_, rfl⟩
  rw [he1] at C1 ⊢
  clear he1
  obtain ⟨e2, he2⟩ : ∃ e, pnE k2 X2 n = e := ⟨_, rfl⟩
  rw [he2] at C2 ⊢
  clear he2
  have hb := below_alloc (Below.refl w.heap.size w) (.cells #[.slice a0 k0 c0, .slice a1 k1 c1, .slice a2 k2 c2] 32)
  have B1 := bk_new w [.slice a0 k0 c0, .slice a1 k1 c1, .slice a2 k2 c2] 32
  have hs1 := hs.below hb
  replace B1 : Bk (w.alloc (.cells #[.slice a0 k0 c0, .slice a1 k1 c1, .slice a2 k2 c2] 32)) w.heap.size [.slice a0 k0 c0, .slice a1 k1 c1, .slice a2 k2 c2] 32 := B1
  clear hs
  go_enter Try.func35, Try.ntmps35
  go_upto_region 1 with fail
  generalize w.alloc (.cells #[.slice a0 k0 c0, .slice a1 k1 c1, .slice a2 k2 c2] 32) = w1 at *
  have hbd := Below.drew (Below.refl w1.heap.size w1)
  replace B1 := B1.below hbd; replace hs1 := hs1.below hbd
  have HW := hid (hb.trans (hbd.mono hb.size))
  clear hbd hb
  have r0 := B1.cell (j := 0) rfl
  have r1 := B1.cell (j := 1) rfl
  have r2 := B1.cell (j := 2) rfl
  have r3 := hs1.c2
  have r4 := hs1.c3
  clear B1 hs1
  refine wp_region_held_drew (S := (fun w' => w'.cell? ⟨w.heap.size, 0, none⟩ = some (.slice a0 k0 c0) ∧ w'.cell? ⟨w.heap.size, 1, none⟩ = some (.slice a1 k1 c1) ∧ w'.cell? ⟨w.heap.size, 2, none⟩ = some (.slice a2 k2 c2) ∧ w'.cell? ⟨B, 2, none⟩ = some (.int .i64 n) ∧ w'.cell? ⟨B, 3, none⟩ = some (.int .i64 k))) (by kernel_rfl) ?_ (fun hHeld => ?_)
  · exact ⟨r0, r1, r2, r3, r4⟩
  generalize w1.drew = wd at *
  refine wpAnyH_take (i := 0) (v := ?_) rfl (by kernel_rfl) (by kernel_rfl) (by kernel_rfl) (fun _ _ _ h => h) (Or.inl ⟨by rfl, ?_⟩) (by assumption) ?_
  rotate_left
  (focus (intro w0 hSw; (try dsimp only at hSw); go_simp <;> with_reducible rfl))
  simp only [List.getElem_toArray, List.getElem_cons_zero, Act.put, List.setIfInBounds_toArray, List.set_cons_zero, List.set_cons_succ]
  refine wpAnyH_take (i := 1) (v := ?_) rfl (by kernel_rfl) (by kernel_rfl) (by kernel_rfl) (fun _ _ _ h => h) (Or.inl ⟨by rfl, ?_⟩) (by assumption) ?_
  rotate_left
  (focus (intro w0 hSw; (try dsimp only at hSw); go_simp <;> with_reducible rfl))
  simp only [List.getElem_toArray, List.getElem_cons_succ, List.getElem_cons_zero, Act.put, List.setIfInBounds_toArray, List.set_cons_zero, List.set_cons_succ]
  refine wpAnyH_take (i := 2) (v := ?_) rfl (by kernel_rfl) (by kernel_rfl) (by kernel_rfl) (fun _ _ _ h => h) (Or.inl ⟨by rfl, ?_⟩) (by assumption) ?_
  rotate_left
  (focus (intro w0 hSw; (try dsimp only at hSw); go_simp <;> with_reducible rfl))
  simp only [List.getElem_toArray, List.getElem_cons_succ, List.getElem_cons_zero, Act.put, List.setIfInBounds_toArray, List.set_cons_zero, List.set_cons_succ]
  refine wpAnyH_take (i := 3) (v := ?_) rfl (by kernel_rfl) (by kernel_rfl) (by kernel_rfl) (fun _ _ _ h => h) (Or.inl ⟨by rfl, ?_⟩) (by assumption) ?_
  rotate_left
  (focus (intro w0 hSw; (try dsimp only at hSw); go_simp <;> with_reducible rfl))
  simp only [List.getElem_toArray, List.getElem_cons_succ, List.getElem_cons_zero, Act.put, List.setIfInBounds_toArray, List.set_cons_zero, List.set_cons_succ]
  refine wpAnyH_take (i := 4) (v := ?_) rfl (by kernel_rfl) (by kernel_rfl) (by kernel_rfl) (fun _ _ _ h => h) (Or.inl ⟨by rfl, ?_⟩) (by assumption) ?_
  rotate_left
  (focus (intro w0 hSw; (try dsimp only at hSw); go_simp <;> with_reducible rfl))
  simp only [List.getElem_toArray, List.getElem_cons_succ, List.getElem_cons_zero, Act.put, List.setIfInBounds_toArray, List.set_cons_zero, List.set_cons_succ]
  refine wpAnyH_take (i := 5) (v := ?_) rfl (by kernel_rfl) (by kernel_rfl) (by kernel_rfl) (fun _ _ _ h => h) (Or.inl ⟨by rfl, ?_⟩) (by assumption) ?_
  rotate_left
  (focus (intro w0 hSw; (try dsimp only at hSw); go_simp <;> with_reducible rfl))
  simp only [List.getElem_toArray, List.getElem_cons_succ, List.getElem_cons_zero, Act.put, List.setIfInBounds_toArray, List.set_cons_zero, List.set_cons_succ]
  refine wpAnyH_take (i := 6) (v := ?_) rfl (by kernel_rfl) (by kernel_rfl) (by kernel_rfl) (fun _ _ _ h => h) (Or.inl ⟨by rfl, ?_⟩) (by assumption) ?_
  rotate_left
  (focus (intro w0 hSw; (try dsimp only at hSw); go_simp <;> with_reducible rfl))
  simp only [List.getElem_toArray, List.getElem_cons_succ, List.getElem_cons_zero, Act.put, List.setIfInBounds_toArray, List.set_cons_zero, List.set_cons_succ]
  refine wpAnyH_take (i := 8) (v := ?_) rfl (by kernel_rfl) (by kernel_rfl) (by kernel_rfl) (fun _ _ _ h => h) (Or.inl ⟨by rfl, ?_⟩) (by assumption) ?_
  rotate_left
  (focus (intro w0 hSw; (try dsimp only at hSw); go_simp <;> with_reducible rfl))
  simp only [List.getElem_toArray, List.getElem_cons_succ, List.getElem_cons_zero, Act.put, List.setIfInBounds_toArray, List.set_cons_zero, List.set_cons_succ]
  refine wpAnyH_take (i := 9) (v := ?_) rfl (by kernel_rfl) (by kernel_rfl) (by kernel_rfl) (fun _ _ _ h => h) (Or.inl ⟨by rfl, ?_⟩) (by assumption) ?_
  rotate_left
  (focus (intro w0 hSw; (try dsimp only at hSw); go_simp <;> with_reducible rfl))
  simp only [List.getElem_toArray, List.getElem_cons_succ, List.getElem_cons_zero, Act.put, List.setIfInBounds_toArray, List.set_cons_zero, List.set_cons_succ]
  refine wpAnyH_take (i := 10) (v := ?_) rfl (by kernel_rfl) (by kernel_rfl) (by kernel_rfl) (fun _ _ _ h => h) (Or.inl ⟨by rfl, ?_⟩) (by assumption) ?_
  rotate_left
  (focus (intro w0 hSw; (try dsimp only at hSw); go_simp <;> with_reducible rfl))
  simp only [List.getElem_toArray, List.getElem_cons_succ, List.getElem_cons_zero, Act.put, List.setIfInBounds_toArray, List.set_cons_zero, List.set_cons_succ]
  refine wpAnyH_take (i := 11) (v := ?_) rfl (by kernel_rfl) (by kernel_rfl) (by kernel_rfl) (fun _ _ _ h => h) (Or.inl ⟨by rfl, ?_⟩) (by assumption) ?_
  rotate_left
  (focus (intro w0 hSw; (try dsimp only at hSw); go_simp <;> with_reducible rfl))
  simp only [List.getElem_toArray, List.getElem_cons_succ, List.getElem_cons_zero, Act.put, List.setIfInBounds_toArray, List.set_cons_zero, List.set_cons_succ]
  refine wpAnyH_take (i := 12) (v := ?_) rfl (by kernel_rfl) (by kernel_rfl) (by kernel_rfl) (fun _ _ _ h => h) (Or.inl ⟨by rfl, ?_⟩) (by assumption) ?_
  rotate_left
  (focus (intro w0 hSw; (try dsimp only at hSw); go_simp <;> with_reducible rfl))
  simp only [List.getElem_toArray, List.getElem_cons_succ, List.getElem_cons_zero, Act.put, List.setIfInBounds_toArray, List.set_cons_zero, List.set_cons_succ]
  refine wpAnyH_take (i := 13) (v := ?_) rfl (by kernel_rfl) (by kernel_rfl) (by kernel_rfl) (fun _ _ _ h => h) (Or.inl ⟨by rfl, ?_⟩) (by assumption) ?_
  rotate_left
  (focus (intro w0 hSw; (try dsimp only at hSw); go_simp <;> with_reducible rfl))
  simp only [List.getElem_toArray, List.getElem_cons_succ, List.getElem_cons_zero, Act.put, List.setIfInBounds_toArray, List.set_cons_zero, List.set_cons_succ]
  refine wpAnyH_take (i := 14) (v := ?_) rfl (by kernel_rfl) (by kernel_rfl) (by kernel_rfl) (fun _ _ _ h => h) (Or.inl ⟨by rfl, ?_⟩) (by assumption) ?_
  rotate_left
  (focus (intro w0 hSw; (try dsimp only at hSw); go_simp <;> with_reducible rfl))
  simp only [List.getElem_toArray, List.getElem_cons_succ, List.getElem_cons_zero, Act.put, List.setIfInBounds_toArray, List.set_cons_zero, List.set_cons_succ]
  refine wpAnyH_take (i := 16) (v := ?_) rfl (by kernel_rfl) (by kernel_rfl) (by kernel_rfl) (fun _ _ _ h => h) (Or.inl ⟨by rfl, ?_⟩) (by assumption) ?_
  rotate_left
  (focus (intro w0 hSw; (try dsimp only at hSw); go_simp <;> with_reducible rfl))
  simp only [List.getElem_toArray, List.getElem_cons_succ, List.getElem_cons_zero, Act.put, List.setIfInBounds_toArray, List.set_cons_zero, List.set_cons_succ]
  refine wpAnyH_take (i := 17) (v := ?_) rfl (by kernel_rfl) (by kernel_rfl) (by kernel_rfl) (fun _ _ _ h => h) (Or.inl ⟨by rfl, ?_⟩) (by assumption) ?_
  rotate_left
  (focus (intro w0 hSw; (try dsimp only at hSw); go_simp <;> with_reducible rfl))
  simp only [List.getElem_toArray, List.getElem_cons_succ, List.getElem_cons_zero, Act.put, List.setIfInBounds_toArray, List.set_cons_zero, List.set_cons_succ]
  refine wpAnyH_take (i := 18) (v := ?_) rfl (by kernel_rfl) (by kernel_rfl) (by kernel_rfl) (fun _ _ _ h => h) (Or.inl ⟨by rfl, ?_⟩) (by assumption) ?_
  rotate_left
  (focus (intro w0 hSw; (try dsimp only at hSw); go_simp <;> with_reducible rfl))
  simp only [List.getElem_toArray, List.getElem_cons_succ, List.getElem_cons_zero, Act.put, List.setIfInBounds_toArray, List.set_cons_zero, List.set_cons_succ]
  refine wpAnyH_take (i := 19) (v := ?_) rfl (by kernel_rfl) (by kernel_rfl) (by kernel_rfl) (fun _ _ _ h => h) (Or.inl ⟨by rfl, ?_⟩) (by assumption) ?_
  rotate_left
  (focus (intro w0 hSw; (try dsimp only at hSw); go_simp <;> with_reducible rfl))
  simp only [List.getElem_toArray, List.getElem_cons_succ, List.getElem_cons_zero, Act.put, List.setIfInBounds_toArray, List.set_cons_zero, List.set_cons_succ]
  refine wpAnyH_take (i := 20) (v := ?_) rfl (by kernel_rfl) (by kernel_rfl) (by kernel_rfl) (fun _ _ _ h => h) (Or.inl ⟨by rfl, ?_⟩) (by assumption) ?_
  rotate_left
  (focus (intro w0 hSw; (try dsimp only at hSw); go_simp <;> with_reducible rfl))
  simp only [List.getElem_toArray, List.getElem_cons_succ, List.getElem_cons_zero, Act.put, List.setIfInBounds_toArray, List.set_cons_zero, List.set_cons_succ]
  refine wpAnyH_take (i := 21) (v := ?_) rfl (by kernel_rfl) (by kernel_rfl) (by kernel_rfl) (fun _ _ _ h => h) (Or.inl ⟨by rfl, ?_⟩) (by assumption) ?_
  rotate_left
  (focus (intro w0 hSw; (try dsimp only at hSw); go_simp <;> with_reducible rfl))
  simp only [List.getElem_toArray, List.getElem_cons_succ, List.getElem_cons_zero, Act.put, List.setIfInBounds_toArray, List.set_cons_zero, List.set_cons_succ]
  refine wpAnyH_take (i := 22) (v := ?_) rfl (by kernel_rfl) (by kernel_rfl) (by kernel_rfl) (fun _ _ _ h => h) (Or.inl ⟨by rfl, ?_⟩) (by assumption) ?_
  rotate_left
  (focus (intro w0 hSw; (try dsimp only at hSw); go_simp <;> with_reducible rfl))
  simp only [List.getElem_toArray, List.getElem_cons_succ, List.getElem_cons_zero, Act.put, List.setIfInBounds_toArray, List.set_cons_zero, List.set_cons_succ]
  refine wpAnyH_ready (rs := [7]) (by kernel_rfl) (by simp) ?_
  refine AllReadyH.cons (o := _) rfl (fun K hK => ?_) ?_
  rotate_left
  exact AllReadyH.nil
  go_simp
  go_at_call 43
  refine (C0.out _ HW.out).mono ?_
  rintro e w2 ⟨rfl, hb0⟩
  have HW0 := hid (HW.out.trans (hb0.mono HW.out.size))
  (try go_wp2_with fail)
  refine hK.out _ _ ?_ (fun hH0 => ?_)
  · ((try dsimp only); (refine ⟨?_, ?_, ?_, ?_, ?_⟩ <;> repeat (with_reducible first | assumption | refine kCb (by assumption) ?_)))
  clear hK K
  try simp only [Act.put, List.setIfInBounds_toArray, List.set_cons_zero, List.set_cons_succ]
  refine wpAnyH_ready (rs := [15]) (by kernel_rfl) (by simp) ?_
  refine AllReadyH.cons (o := _) rfl (fun K hK => ?_) ?_
  rotate_left
  exact AllReadyH.nil
  go_simp
  go_at_call 43
  refine (C1.out _ HW0.out).mono ?_
  rintro e w3 ⟨rfl, hb1⟩
  have HW1 := hid (HW0.out.trans (hb1.mono HW0.out.size))
  (try go_wp2_with fail)
  refine hK.out _ _ ?_ (fun hH1 => ?_)
  · ((try dsimp only); (refine ⟨?_, ?_, ?_, ?_, ?_⟩ <;> repeat (with_reducible first | assumption | refine kCb (by assumption) ?_)))
  clear hK K
  try simp only [Act.put, List.setIfInBounds_toArray, List.set_cons_zero, List.set_cons_succ]
  refine wpAnyH_ready (rs := [23]) (by kernel_rfl) (by simp) ?_
  refine AllReadyH.cons (o := _) rfl (fun K hK => ?_) ?_
  rotate_left
  exact AllReadyH.nil
  go_simp
  go_at_call 43
  refine (C2.out _ HW1.out).mono ?_
  rintro e w4 ⟨rfl, hb2⟩
  have HW2 := hid (HW1.out.trans (hb2.mono HW1.out.size))
  (try go_wp2_with fail)
  refine hK.out _ _ ?_ (fun hH2 => ?_)
  · ((try dsimp only); (refine ⟨?_, ?_, ?_, ?_, ?_⟩ <;> repeat (with_reducible first | assumption | refine kCb (by assumption) ?_)))
  clear hK K
  try simp only [Act.put, List.setIfInBounds_toArray, List.set_cons_zero, List.set_cons_succ]
  refine wpAnyH_ready (rs := [24]) (by kernel_rfl) (by simp) ?_
  refine AllReadyH.cons (o := _) rfl (fun K hK => ?_) ?_
  rotate_left
  exact AllReadyH.nil
  go_simp
  have hbA := below_alloc (Below.refl w4.heap.size w4) (.cells #[.int .i64 e0, .int .i64 e1, .int .i64 e2] 24)
  have HEl := hid (tri_el (w := w4) (e0 := e0) (e1 := e1) (e2 := e2) (t := 24))
  have HWA := hid (HW2.out.trans (hbA.mono HW2.out.size))
  obtain ⟨gA, hgA⟩ : ∃ z, w4.heap.size = z := ⟨_, rfl⟩
  rw [hgA] at HEl ⊢
  generalize hwA : w4.alloc (.cells #[.int .i64 e0, .int .i64 e1, .int .i64 e2] 24) = wA at *
  clear hwA hgA
  refine hK.out _ _ ?_ (fun hHA => ?_)
  · ((try dsimp only); (refine ⟨?_, ?_, ?_, ?_, ?_⟩ <;> repeat (with_reducible first | assumption | refine kCb (by assumption) ?_)))
  clear hK K
  try simp only [Act.put, List.setIfInBounds_toArray, List.set_cons_zero, List.set_cons_succ]
  refine wpAnyH_ready (rs := [25]) (by kernel_rfl) (by simp) ?_
  refine AllReadyH.cons (o := _) rfl (fun K hK => ?_) ?_
  rotate_left
  exact AllReadyH.nil
  go_simp
  go_at_call 42
  refine (least_c HEl.out (by decide)).mono ?_
  rintro e w9 ⟨rfl, rfl⟩
  (try go_wp2_with fail)
  refine hK.out _ _ ?_ (fun hHB => ?_)
  · exact hHA
  clear hK K
  try simp only [Act.put, List.setIfInBounds_toArray, List.set_cons_zero, List.set_cons_succ]
  refine wpAnyH_take (i := 26) (v := ?_) rfl (by kernel_rfl) (by kernel_rfl) (by kernel_rfl) (fun _ _ _ h => h) (Or.inl ⟨by rfl, ?_⟩) (by assumption) ?_
  rotate_left
  (focus (intro w0 hSw; (try dsimp only at hSw); go_simp <;> with_reducible rfl))
  simp only [List.getElem_toArray, List.getElem_cons_succ, List.getElem_cons_zero, Act.put, List.setIfInBounds_toArray, List.set_cons_zero, List.set_cons_succ]
  refine wpAnyH_done (by kernel_rfl) ?_ _
  go_wp2
  go_ret
  exact ⟨rfl, HWA.out⟩
/-- What Dual answers: the point itself, copied, or its error. -/
def DualAnsA (w w' : World) (e : Ending) (n k : Int) (k0 : Nat) (X0 : Nat → Nm) (k1 : Nat) (X1 : Nat → Nm) (k2 : Nat) (X2 : Nat → Nm) : Prop := Below w.heap.size w w' ∧
  ((ptE n k k0 X0 k1 X1 k2 X2 ≠ 0 ∧ e = .returned (.tuple #[.agg #[.slice none 0 0, .slice none 0 0, .slice none 0 0], .int .i64 (ptE n k k0 X0 k1 X1 k2 X2)])) ∨ (ptE n k k0 X0 k1 X1 k2 X2 = 0 ∧ ∃ g0 Y0 g1 Y1 g2 Y2, e = .returned (.tuple #[.agg #[.slice (some ⟨g0, 0, none⟩) k0 k0, .slice (some ⟨g1, 0, none⟩) k1 k1, .slice (some ⟨g2, 0, none⟩) k2 k2], .int .i64 0]) ∧ Cp w' w.heap.size g0 k0 k0 X0 Y0 ∧ Cp w' w.heap.size g1 k1 k1 X1 Y1 ∧ Cp w' w.heap.size g2 k2 k2 X2 Y2 ∧ g0 < g1 ∧ g1 < g2))
set_option maxRecDepth 100000 in
set_option maxHeartbeats 4000000 in
theorem sdualA_c {w : World} {B : Nat} {n k : Int} {a0 a1 a2 : Option Addr} {k0 c0 k1 c1 k2 c2 : Nat} {X0 X1 X2 : Nat → Nm} (hs : Sk w B n k) (h0 : Rl w a0 k0 X0) (h1 : Rl w a1 k1 X1) (h2 : Rl w a2 k2 X2) (hk0 : k0 ≤ 1048576) (hk1 : k1 ≤ 1048576) (hk2 : k2 ≤ 1048576) :
    Calls Try.prog 18 #[.pointer (some ⟨B, 0, none⟩), .agg #[.slice a0 k0 c0, .slice a1 k1 c1, .slice a2 k2 c2]] w fun e w' => DualAnsA w w' e n k k0 X0 k1 X1 k2 X2 := by
  have CC := hid (fun W (hW : Below w.heap.size w W) => checkPoint_c (w := W) (c0 := c0) (c1 := c1) (c2 := c2) (hs.below hW) (h0.below hW) (h1.below hW) (h2.below hW) hk0 hk1 hk2)
  have CP := hid (fun W (hW : Below w.heap.size w W) => cpPointA_c (w := W) (c0 := c0) (c1 := c1) (c2 := c2) (h0.below hW) (h1.below hW) (h2.below hW) hk0 hk1 hk2)
  have HS := hid hs
  clear h0 h1 h2 hs
  obtain ⟨er, her⟩ : ∃ e, ptE n k k0 X0 k1 X1 k2 X2 = e := ⟨_, rfl⟩
  rw [her] at CC
  have HE := hid her
  clear her
  have hb := below_alloc (below_alloc (Below.refl w.heap.size w) (.cells #[.slice a0 k0 c0, .slice a1 k1 c1, .slice a2 k2 c2] 32)) (.cells #[.slice none 0 0, .slice none 0 0, .slice none 0 0] 32)
  have B1 : Bk ((w.alloc (.cells #[.slice a0 k0 c0, .slice a1 k1 c1, .slice a2 k2 c2] 32)).alloc (.cells #[.slice none 0 0, .slice none 0 0, .slice none 0 0] 32)) w.heap.size [.slice a0 k0 c0, .slice a1 k1 c1, .slice a2 k2 c2] 32 := (bk_new w [.slice a0 k0 c0, .slice a1 k1 c1, .slice a2 k2 c2] 32).below (below_alloc (Below.refl _ _) (.cells #[.slice none 0 0, .slice none 0 0, .slice none 0 0] 32))
  have B2 : Bk ((w.alloc (.cells #[.slice a0 k0 c0, .slice a1 k1 c1, .slice a2 k2 c2] 32)).alloc (.cells #[.slice none 0 0, .slice none 0 0, .slice none 0 0] 32)) (w.heap.size + 1) [.slice none 0 0, .slice none 0 0, .slice none 0 0] 32 := by
    have := bk_new (w.alloc (.cells #[.slice a0 k0 c0, .slice a1 k1 c1, .slice a2 k2 c2] 32)) [.slice none 0 0, .slice none 0 0, .slice none 0 0] 32
    rw [size_alloc1] at this
    exact this
  have hsz : ((w.alloc (.cells #[.slice a0 k0 c0, .slice a1 k1 c1, .slice a2 k2 c2] 32)).alloc (.cells #[.slice none 0 0, .slice none 0 0, .slice none 0 0] 32)).heap.size = w.heap.size + 1 + 1 := by simp
  go_enter Try.func18, Try.ntmps18
  go_upto_region 3 with fail
  generalize (w.alloc (.cells #[.slice a0 k0 c0, .slice a1 k1 c1, .slice a2 k2 c2] 32)).alloc (.cells #[.slice none 0 0, .slice none 0 0, .slice none 0 0] 32) = w2 at *
  have r0 := B1.cell (j := 0) rfl
  have r1 := B1.cell (j := 1) rfl
  have r2 := B1.cell (j := 2) rfl
  have HB := hid hb
  have HB1 := hid B1
  have HB2 := hid B2
  have HSZ := hid hsz
  clear hb B1 B2 hsz
  go_wp2_with fail
  refine (CC.out _ HB.out).mono ?_
  rintro e w3 ⟨rfl, hb3⟩
  replace HB1 := hid (HB1.out.below hb3); replace HB2 := hid (HB2.out.below hb3); have HB3 := hid (HB.out.trans (hb3.mono HB.out.size))
  clear r0 r1 r2
  have r0 := HB1.out.cell (j := 0) rfl
  have r1 := HB1.out.cell (j := 1) rfl
  have r2 := HB1.out.cell (j := 2) rfl
  have l0 := HB2.out.cell (j := 0) rfl
  have l1 := HB2.out.cell (j := 1) rfl
  have l2 := HB2.out.cell (j := 2) rfl
  have ff := HB2.out.frozen
  have h3s := hb3.size
  clear hb3
  by_cases h0 : er = 0
  · subst h0
    go_wp2_with fail
    refine (CP.out _ HB3.out).mono ?_
    rintro e w4 ⟨g0, Y0, g1, Y1, g2, Y2, rfl, hb4, HC⟩
    have HB4 := hid (HB3.out.trans (hb4.mono HB3.out.size)); have HD2 := hid (HB2.out.below hb4); have hq := hb4.size
    clear hb4 l0 l1 l2 ff r0 r1 r2
    go_wp2_with fail
    refine (backP_c (HS.out.below HB4.out) _ _ _ _ _ _ _ _ _ _).mono ?_
    rintro e w5 ⟨rfl, hb5⟩
    have HB5 := hid (HB4.out.trans (hb5.mono HB4.out.size)); replace HD2 := hid (HD2.out.below hb5)
    have hc5 := HC.out
    obtain ⟨q0, q1, q2, hap⟩ := hc5
    replace q0 := q0.below hb5; replace q1 := q1.below hb5; replace q2 := q2.below hb5
    have hsz := HSZ.out
    obtain ⟨hx1, hx2, hx3⟩ := st_new [.slice (some ⟨g0, 0, none⟩) k0 k0, .slice (some ⟨g1, 0, none⟩) k1 k1, .slice (some ⟨g2, 0, none⟩) k2 k2] HD2.out (nou_list (fun u hu q => by simp at hu; first | (subst hu; simp) | (rcases hu with rfl | rfl <;> simp) | (rcases hu with rfl | rfl | rfl <;> simp))) HB5.out (Nat.le_succ _)
    have l0 := HD2.out.cell (j := 0) rfl
    have l1 := HD2.out.cell (j := 1) rfl
    have l2 := HD2.out.cell (j := 2) rfl
    have ff := HD2.out.frozen
    have HX : Hid (DualAnsA w (stl (w.heap.size + 1) 0 [.slice (some ⟨g0, 0, none⟩) k0 k0, .slice (some ⟨g1, 0, none⟩) k1 k1, .slice (some ⟨g2, 0, none⟩) k2 k2] w5) (.returned (.tuple #[.agg #[.slice (some ⟨g0, 0, none⟩) k0 k0, .slice (some ⟨g1, 0, none⟩) k1 k1, .slice (some ⟨g2, 0, none⟩) k2 k2], .int .i64 0])) n k k0 X0 k1 X1 k2 X2) := ⟨hx1, .inr ⟨HE.out, g0, Y0, g1, Y1, g2, Y2, rfl, (q0.low HB3.out.size).kp hx2 (hx3 _ (by have := q0.ge; omega)), (q1.low HB3.out.size).kp hx2 (hx3 _ (by have := q1.ge; omega)), (q2.low HB3.out.size).kp hx2 (hx3 _ (by have := q2.ge; omega)), hap⟩⟩
    clear q0 q1 q2 hx1 hx2 hx3 hb5 HC HD2 HB5 HB4 CC CP HSZ HE hsz h3s hq HB HB1 HB2 HB3 HS
    go_wp2
    exact bodyPost_ret (v := .tuple #[.agg #[.slice (some ⟨g0, 0, none⟩) k0 k0, .slice (some ⟨g1, 0, none⟩) k1 k1, .slice (some ⟨g2, 0, none⟩) k2 k2], .int .i64 0]) (by simp [results, Try.results18, go_sem, l0, l1, l2]) rfl HX.out
  · have h1 : (er != 0) = true := by simpa using h0
    obtain ⟨hx1, hx2, hx3⟩ := st_new [.slice none 0 0, .slice none 0 0, .slice none 0 0] HB2.out (nou_list (fun u hu q => by simp at hu; first | (subst hu; simp) | (rcases hu with rfl | rfl <;> simp) | (rcases hu with rfl | rfl | rfl <;> simp))) HB3.out (Nat.le_succ _)
    have HX : Hid (DualAnsA w (stl (w.heap.size + 1) 0 [.slice none 0 0, .slice none 0 0, .slice none 0 0] w3) (.returned (.tuple #[.agg #[.slice none 0 0, .slice none 0 0, .slice none 0 0], .int .i64 er])) n k k0 X0 k1 X1 k2 X2) := ⟨hx1, .inl ⟨by rw [HE.out]; exact h0, by rw [HE.out]⟩⟩
    clear hx1 hx2 hx3 CC CP HSZ HE HB HB1 HB2 HB3 HS h3s
    go_wp2
    exact bodyPost_ret (v := .tuple #[.agg #[.slice none 0 0, .slice none 0 0, .slice none 0 0], .int .i64 er]) (by simp [results, Try.results18, go_sem, l0, l1, l2]) rfl HX.out
end Go.Proofs.Ytllpllebmknmpaa
namespace Go.Proofs.Ytllpllebmknmpaa
open Go.RowKit

theorem rSameEq_c {L L' w sa xa na ca fa ya ma da ga sb xb nb cb fb yb mb db gb q} (ha : Rn L w sa xa na ca fa ya ma da ga q) (hb : Rn L' w sb xb nb cb fb yb mb db gb q) (h1 : L ≤ 1048576) (h2 : L' ≤ 1048576) :
    Calls Try.prog 30 #[.agg #[.bool sa, .slice xa na ca, .slice ya ma da], .agg #[.bool sb, .slice xb nb cb, .slice yb mb db]] w fun e w' => e = .returned (.bool true) ∧ Below w.heap.size w w' := by
  have l1 := ha.ln; have l2 := ha.ld; have l3 := hb.ln; have l4 := hb.ld
  refine (rSame_c sa xa ya na ca ma da fa ga sb xb yb nb cb mb db fb gb w ha.num.rd ha.den.rd hb.num.rd hb.den.rd (by omega) (by omega) (by omega) (by omega)).mono ?_
  rintro e w' ⟨c, rfl, h3, h4⟩
  refine ⟨?_, h3⟩
  rw [h4.2 ((ha.inj hb).2 rfl)]

set_option maxRecDepth 100000 in
set_option maxHeartbeats 4000000 in
theorem samesEq_c {w : World} {L L' : Nat} {ao bo : Option Addr} {k ca cb : Nat} {p : List Rat} (ha : Rf L w ao p) (hb : Rf L' w bo p) (hk : p.length = k) (hk2 : k ≤ 1048576) (h1 : L ≤ 1048576) (h2 : L' ≤ 1048576) :
    Calls Try.prog 16 #[.slice ao k ca, .slice bo k cb] w fun e w' => e = .returned (.bool true) ∧ Below w.heap.size w w' := by
  have HA := hid ha; have HB := hid hb
  have hkk : (((k : Nat) : Int) != ((k : Nat) : Int)) = false := by simp
  clear ha hb
  go_enter Try.func16, Try.ntmps16
  go_wp2_with fail
  go_loopw [13] (fun t wr => ∃ (i : Nat), i ≤ k ∧ t = .int .i64 i ∧ Hid (Below w.heap.size w wr)) (fun t _ => k - (intOf t).toNat)
  case atStart => exact ⟨0, by omega, rfl, Below.refl _ _⟩
  case round =>
    obtain ⟨i, hi, rfl, HW⟩ := hrel
    by_cases hlt : i < k
    · obtain ⟨q, hq⟩ : ∃ q, p[i]? = some q := ⟨_, List.getElem?_eq_getElem (by omega)⟩
      obtain ⟨b, o, ⟨ts, tx, tn, tc, tf, ty, tm, td, tg⟩, rfl, hc, hr⟩ := (HA.out.below HW.out) i q hq
      obtain ⟨b', o', ⟨ss, sx, sn, sc, sf, sy, sm, sd, sg⟩, rfl, hc', hr'⟩ := (HB.out.below HW.out) i q hq
      obtain ⟨x0, x1, x2⟩ := hc
      obtain ⟨p0, p1, p2⟩ := hc'
      replace x0 : wr.cell? ⟨b, o + i * 3, none⟩ = some (.bool ts) := x0
      replace x1 : wr.cell? ⟨b, o + i * 3 + 1, none⟩ = some (.slice tx tn tc) := x1
      replace x2 : wr.cell? ⟨b, o + i * 3 + 2, none⟩ = some (.slice ty tm td) := x2
      replace p0 : wr.cell? ⟨b', o' + i * 3, none⟩ = some (.bool ss) := p0
      replace p1 : wr.cell? ⟨b', o' + i * 3 + 1, none⟩ = some (.slice sx sn sc) := p1
      replace p2 : wr.cell? ⟨b', o' + i * 3 + 2, none⟩ = some (.slice sy sm sd) := p2
      have CS : Hid (∀ W, Below wr.heap.size wr W → Calls Try.prog 30 #[.agg #[.bool ts, .slice tx tn tc, .slice ty tm td], .agg #[.bool ss, .slice sx sn sc, .slice sy sm sd]] W fun e w' => e = .returned (.bool true) ∧ Below W.heap.size W w') := fun W hW =>
        rSameEq_c (Rn.below hr hW) (Rn.below hr' hW) h1 h2
      have i2 : ((i : Nat) : Int) < ((k : Nat) : Int) := by omega
      clear hr hr' hq
      go_upto_region 6 with fail
      go_region_held3 (fun w' => w'.cell? ⟨b, o + i * 3, none⟩ = some (.bool ts) ∧ w'.cell? ⟨b, o + i * 3 + 1, none⟩ = some (.slice tx tn tc) ∧ w'.cell? ⟨b, o + i * 3 + 2, none⟩ = some (.slice ty tm td) ∧ w'.cell? ⟨b', o' + i * 3, none⟩ = some (.bool ss) ∧ w'.cell? ⟨b', o' + i * 3 + 1, none⟩ = some (.slice sx sn sc) ∧ w'.cell? ⟨b', o' + i * 3 + 2, none⟩ = some (.slice sy sm sd))
        (refine ⟨?_, ?_, ?_, ?_, ?_, ?_⟩ <;> repeat (with_reducible first | assumption | refine kCd ?_ | refine kCb (by assumption) ?_))
        ((go_at_call 30; with_reducible refine (CS.out _ (by repeat (with_reducible first | assumption | exact Below.refl _ _ | refine kBdn ?_ | refine Below.drew ?_))).mono ?_; rintro e w5 ⟨rfl, hb5⟩))
      all_goals
        (have HW5 : Hid (Below w.heap.size w w5) := hid (HW.out.trans (Below.mono (show Below wr.heap.size wr w5 by repeat (with_reducible first | assumption | exact Below.refl _ _ | refine kBdn ?_ | refine Below.drew ?_ | refine kBb (by assumption) ?_)) HW.out.size))
         clear x0 x1 x2 p0 p1 p2 CS hb5
         go_wp2
         go_roundw
         case rel => exact ⟨i + 1, by omega, by go_num, (by first | exact HW5.out | exact HW5.out.drew | exact below_drewN HW5.out _)⟩
         case measure => simp [intOf]; omega)
    · have i2 : ¬ (((i : Nat) : Int) < ((k : Nat) : Int)) := by omega
      go_wp2
      go_ret
      exact ⟨rfl, HW.out⟩

end Go.Proofs.Ytllpllebmknmpaa
namespace Go.Proofs.Ytllpllebmknmpaa
open Go.RowKit

theorem rl_one {w : World} {t : Nm} (h : NmR w t) : Rl (w.alloc (.cells #[.bool t.s, .slice t.x t.n t.c, .slice t.y t.m t.d] 66)) (some ⟨w.heap.size, 0, none⟩) 1 (fun _ => t) := fun j hj => by
  obtain rfl : j = 0 := by omega
  exact ⟨_, 0, rfl, ⟨by simp [go_sem], by simp [go_sem], by simp [go_sem]⟩, h.below (below_alloc (Below.refl _ _) _)⟩
theorem rl_two {w : World} {t u : Nm} (h : NmR w t) (h2 : NmR w u) : Rl (w.alloc (.cells #[.bool t.s, .slice t.x t.n t.c, .slice t.y t.m t.d, .bool u.s, .slice u.x u.n u.c, .slice u.y u.m u.d] 66)) (some ⟨w.heap.size, 0, none⟩) 2 (fun j => if j = 0 then t else u) := fun j hj => by
  rcases (show j = 0 ∨ j = 1 by omega) with rfl | rfl
  · exact ⟨_, 0, rfl, ⟨by simp [go_sem], by simp [go_sem], by simp [go_sem]⟩, h.below (below_alloc (Below.refl _ _) _)⟩
  · exact ⟨_, 0, rfl, ⟨by simp [go_sem], by simp [go_sem], by simp [go_sem]⟩, h2.below (below_alloc (Below.refl _ _) _)⟩
set_option maxRecDepth 100000 in
set_option maxHeartbeats 8000000 in
theorem awake17_c (w : World) : Calls Try.prog 8 #[] w fun e w' => e = .returned (.bool true) ∧ Below w.heap.size w w' := by
  go_enter Try.func8, Try.ntmps8
  go_wp2_with fail
  refine (snew_c (n := 2) (k := 1) (by decide) (by decide) (by decide) (by decide)).mono ?_
  rintro e w1 ⟨B, rfl, hb1, hs1⟩
  have HB1 := hid hb1; have HS1 := hid hs1.out.2
  clear hb1 hs1
  go_wp2_with fail
  refine (ssize_c HS1.out).mono ?_
  rintro e w2 ⟨rfl, hb2⟩
  have HB2 := hid (HB1.out.trans (hb2.mono HB1.out.size)); have HS2 := hid (HS1.out.below hb2)
  clear hb2 HB1 HS1
  go_wp2_with fail
  refine (docOfQ_c (z := 1) (by decide) (by decide)).mono ?_
  rintro e w3 ⟨s1, x1, n1, c1, f1, y1, m1, d1, g1, rfl, hb3, h1⟩
  have HB3 := hid (HB2.out.trans (hb3.mono HB2.out.size)); have HS3 := hid (HS2.out.below hb3); have HR1 := hid h1
  clear hb3 h1 HB2 HS2
  go_wp2_with fail
  refine (docOfQ_c (z := 2) (by decide) (by decide)).mono ?_
  rintro e w4 ⟨s2, x2, n2, c2, f2, y2, m2, d2, g2, rfl, hb4, h2⟩
  have HB4 := hid (HB3.out.trans (hb4.mono HB3.out.size)); have HS4 := hid (HS3.out.below hb4); replace HR1 := hid (HR1.out.below hb4); have HR2 := hid h2
  clear hb4 h2 HB3 HS3
  have hx := rl_two (Rn.nm (t := ⟨s1, x1, n1, c1, f1, y1, m1, d1, g1⟩) HR1.out (by decide)).1 (Rn.nm (t := ⟨s2, x2, n2, c2, f2, y2, m2, d2, g2⟩) HR2.out (by decide)).1
  have hf : pnE 2 (fun j => if j = 0 then (⟨s1, x1, n1, c1, f1, y1, m1, d1, g1⟩ : Nm) else ⟨s2, x2, n2, c2, f2, y2, m2, d2, g2⟩) 2 = 0 := by
    have a1 := (Rn.nm (t := ⟨s1, x1, n1, c1, f1, y1, m1, d1, g1⟩) HR1.out (by decide)).2; have a2 := (Rn.nm (t := ⟨s2, x2, n2, c2, f2, y2, m2, d2, g2⟩) HR2.out (by decide)).2
    have a3 : afB 2 (fun j => if j = 0 then (⟨s1, x1, n1, c1, f1, y1, m1, d1, g1⟩ : Nm) else ⟨s2, x2, n2, c2, f2, y2, m2, d2, g2⟩) = true := by
      show (nfB ⟨s1, x1, n1, c1, f1, y1, m1, d1, g1⟩ && (nfB ⟨s2, x2, n2, c2, f2, y2, m2, d2, g2⟩ && true)) = true
      rw [a1, a2]; rfl
    rw [pnE, a3]; rfl
  have hb5 := below_alloc (Below.refl w4.heap.size w4) (.cells #[.bool s1, .slice x1 n1 c1, .slice y1 m1 d1, .bool s2, .slice x2 n2 c2, .slice y2 m2 d2] 66)
  replace hx : Rl (w4.alloc (.cells #[.bool s1, .slice x1 n1 c1, .slice y1 m1 d1, .bool s2, .slice x2 n2 c2, .slice y2 m2 d2] 66)) (some ⟨w4.heap.size, 0, none⟩) 2 (fun j => if j = 0 then ⟨s1, x1, n1, c1, f1, y1, m1, d1, g1⟩ else ⟨s2, x2, n2, c2, f2, y2, m2, d2, g2⟩) := hx
  have HX := hid hx; have HF := hid hf; have HB5 := hid (HB4.out.trans (hb5.mono HB4.out.size)); have HS5 := hid (HS4.out.below hb5); replace HR2 := hid (HR2.out.below hb5)
  clear hx hf hb5 HB4 HS4 HR1
  go_wp2_with fail
  generalize w4.alloc (.cells #[.bool s1, .slice x1 n1 c1, .slice y1 m1 d1, .bool s2, .slice x2 n2 c2, .slice y2 m2 d2] 66) = w5 at *
  refine (sprimal_c (cap := 2) HS5.out HX.out (by decide)).mono ?_
  rintro e w6 ⟨hb6, ⟨h0, _⟩ | ⟨_, g, Y, rfl, hc⟩⟩
  · exact absurd HF.out h0
  have hel := hc.el 1 (by decide)
  obtain ⟨hy, hsn, hrw, _⟩ := hel
  obtain ⟨⟨s3, x3, n3, c3, f3, y3, m3, d3, g3⟩, hY⟩ : ∃ t, Y 1 = t := ⟨_, rfl⟩
  rw [hY] at hy hsn hrw
  have HR3 : Hid (Rn 4 w6 s3 x3 n3 c3 f3 y3 m3 d3 g3 ((2 : Int) : Rat)) := Rn.sn (t := ⟨s2, x2, n2, c2, f2, y2, m2, d2, g2⟩) (t' := ⟨s3, x3, n3, c3, f3, y3, m3, d3, g3⟩) HR2.out hsn hrw
  have HY : Hid (C3 w6 g (1 * 3) (.bool s3) (.slice x3 n3 c3) (.slice y3 m3 d3)) := hy
  have HB6 := hid (HB5.out.trans (hb6.mono HB5.out.size)); have HS6 := hid (HS5.out.below hb6)
  clear hb6 hc hy hsn hrw hY HB5 HS5 HR2 HX HF
  go_wp2_with fail
  refine (docOfQ_c (z := 1) (by decide) (by decide)).mono ?_
  rintro e w7 ⟨s4, x4, n4, c4, f4, y4, m4, d4, g4, rfl, hb7, h4⟩
  have HB7 := hid (HB6.out.trans (hb7.mono HB6.out.size)); have HS7 := hid (HS6.out.below hb7); replace HR3 := hid (HR3.out.below hb7); replace HY := hid (HY.out.below hb7)
  have hx := rl_one (Rn.nm (t := ⟨s4, x4, n4, c4, f4, y4, m4, d4, g4⟩) h4 (by decide)).1
  have hf : pnE 1 (fun _ => (⟨s4, x4, n4, c4, f4, y4, m4, d4, g4⟩ : Nm)) 2 = 7 := by
    have a1 := (Rn.nm (t := ⟨s4, x4, n4, c4, f4, y4, m4, d4, g4⟩) h4 (by decide)).2
    have a3 : afB 1 (fun _ => (⟨s4, x4, n4, c4, f4, y4, m4, d4, g4⟩ : Nm)) = true := by
      show (nfB ⟨s4, x4, n4, c4, f4, y4, m4, d4, g4⟩ && true) = true
      rw [a1]; rfl
    rw [pnE, a3]; rfl
  have hb8 := below_alloc (Below.refl w7.heap.size w7) (.cells #[.bool s4, .slice x4 n4 c4, .slice y4 m4 d4] 66)
  replace hx : Rl (w7.alloc (.cells #[.bool s4, .slice x4 n4 c4, .slice y4 m4 d4] 66)) (some ⟨w7.heap.size, 0, none⟩) 1 (fun _ => ⟨s4, x4, n4, c4, f4, y4, m4, d4, g4⟩) := hx
  have HX := hid hx; have HF := hid hf; have HB8 := hid (HB7.out.trans (hb8.mono HB7.out.size)); have HS8 := hid (HS7.out.below hb8); replace HR3 := hid (HR3.out.below hb8); replace HY := hid (HY.out.below hb8)
  clear hx hf hb7 hb8 h4 HB6 HS6 HB7 HS7
  go_wp2_with fail
  generalize w7.alloc (.cells #[.bool s4, .slice x4 n4 c4, .slice y4 m4 d4] 66) = w8 at *
  refine (sprimal_c (cap := 1) HS8.out HX.out (by decide)).mono ?_
  rintro e w9 ⟨hb9, ⟨h0, rfl⟩ | ⟨h0, _⟩⟩
  case inr => rw [HF.out] at h0; cases h0
  rw [HF.out]
  have HB9 := hid (HB8.out.trans (hb9.mono HB8.out.size)); have HS9 := hid (HS8.out.below hb9); replace HR3 := hid (HR3.out.below hb9); replace HY := hid (HY.out.below hb9)
  clear hb9 h0 HB8 HS8 HX HF
  go_wp2_with fail
  refine (snewE_c (n := 65) (k := 0) (by decide)).mono ?_
  rintro e w10 ⟨rfl, rfl⟩
  obtain ⟨r0, r1, r2⟩ := HY.out
  clear HY
  go_upto_region 8 with fail
  have hbd := Below.drew (Below.refl w10.heap.size w10)
  replace HB9 := hid (HB9.out.trans (hbd.mono HB9.out.size)); replace HS9 := hid (HS9.out.below hbd); replace HR3 := hid (HR3.out.below hbd)
  replace r0 : w10.drew.cell? ⟨g, 3, none⟩ = some (.bool s3) := kCb hbd r0
  replace r1 : w10.drew.cell? ⟨g, 4, none⟩ = some (.slice x3 n3 c3) := kCb hbd r1
  replace r2 : w10.drew.cell? ⟨g, 5, none⟩ = some (.slice y3 m3 d3) := kCb hbd r2
  clear hbd
  refine wp_region_held_drew (S := (fun w' => w'.cell? ⟨g, 3, none⟩ = some (.bool s3) ∧ w'.cell? ⟨g, 4, none⟩ = some (.slice x3 n3 c3) ∧ w'.cell? ⟨g, 5, none⟩ = some (.slice y3 m3 d3))) (by kernel_rfl) ?_ (fun hHeld => ?_)
  · exact ⟨r0, r1, r2⟩
  generalize w10.drew = wd at *
  refine wpAnyH_take (i := 0) (v := ?_) rfl (by kernel_rfl) (by kernel_rfl) (by kernel_rfl) (fun _ _ _ h => h) (Or.inl ⟨by rfl, ?_⟩) (by assumption) ?_
  rotate_left
  (focus (intro w0 hSw; (try dsimp only at hSw); go_simp <;> with_reducible rfl))
  simp only [List.getElem_toArray, List.getElem_cons_zero, Act.put, List.setIfInBounds_toArray, List.set_cons_zero, List.set_cons_succ]
  refine wpAnyH_take (i := 1) (v := ?_) rfl (by kernel_rfl) (by kernel_rfl) (by kernel_rfl) (fun _ _ _ h => h) (Or.inl ⟨by rfl, ?_⟩) (by assumption) ?_
  rotate_left
  (focus (intro w0 hSw; (try dsimp only at hSw); go_simp <;> with_reducible rfl))
  simp only [List.getElem_toArray, List.getElem_cons_succ, List.getElem_cons_zero, Act.put, List.setIfInBounds_toArray, List.set_cons_zero, List.set_cons_succ]
  refine wpAnyH_take (i := 2) (v := ?_) rfl (by kernel_rfl) (by kernel_rfl) (by kernel_rfl) (fun _ _ _ h => h) (Or.inl ⟨by rfl, ?_⟩) (by assumption) ?_
  rotate_left
  (focus (intro w0 hSw; (try dsimp only at hSw); go_simp <;> with_reducible rfl))
  simp only [List.getElem_toArray, List.getElem_cons_succ, List.getElem_cons_zero, Act.put, List.setIfInBounds_toArray, List.set_cons_zero, List.set_cons_succ]
  refine wpAnyH_take (i := 3) (v := ?_) rfl (by kernel_rfl) (by kernel_rfl) (by kernel_rfl) (fun _ _ _ h => h) (Or.inl ⟨by rfl, ?_⟩) (by assumption) ?_
  rotate_left
  (focus (intro w0 hSw; (try dsimp only at hSw); go_simp <;> with_reducible rfl))
  simp only [List.getElem_toArray, List.getElem_cons_succ, List.getElem_cons_zero, Act.put, List.setIfInBounds_toArray, List.set_cons_zero, List.set_cons_succ]
  refine wpAnyH_take (i := 4) (v := ?_) rfl (by kernel_rfl) (by kernel_rfl) (by kernel_rfl) (fun _ _ _ h => h) (Or.inl ⟨by rfl, ?_⟩) (by assumption) ?_
  rotate_left
  (focus (intro w0 hSw; (try dsimp only at hSw); go_simp <;> with_reducible rfl))
  simp only [List.getElem_toArray, List.getElem_cons_succ, List.getElem_cons_zero, Act.put, List.setIfInBounds_toArray, List.set_cons_zero, List.set_cons_succ]
  refine wpAnyH_take (i := 5) (v := ?_) rfl (by kernel_rfl) (by kernel_rfl) (by kernel_rfl) (fun _ _ _ h => h) (Or.inl ⟨by rfl, ?_⟩) (by assumption) ?_
  rotate_left
  (focus (intro w0 hSw; (try dsimp only at hSw); go_simp <;> with_reducible rfl))
  simp only [List.getElem_toArray, List.getElem_cons_succ, List.getElem_cons_zero, Act.put, List.setIfInBounds_toArray, List.set_cons_zero, List.set_cons_succ]
  refine wpAnyH_take (i := 6) (v := ?_) rfl (by kernel_rfl) (by kernel_rfl) (by kernel_rfl) (fun _ _ _ h => h) (Or.inl ⟨by rfl, ?_⟩) (by assumption) ?_
  rotate_left
  (focus (intro w0 hSw; (try dsimp only at hSw); go_simp <;> with_reducible rfl))
  simp only [List.getElem_toArray, List.getElem_cons_succ, List.getElem_cons_zero, Act.put, List.setIfInBounds_toArray, List.set_cons_zero, List.set_cons_succ]
  refine wpAnyH_take (i := 7) (v := ?_) rfl (by kernel_rfl) (by kernel_rfl) (by kernel_rfl) (fun _ _ _ h => h) (Or.inl ⟨by rfl, ?_⟩) (by assumption) ?_
  rotate_left
  (focus (intro w0 hSw; (try dsimp only at hSw); go_simp <;> with_reducible rfl))
  simp only [List.getElem_toArray, List.getElem_cons_succ, List.getElem_cons_zero, Act.put, List.setIfInBounds_toArray, List.set_cons_zero, List.set_cons_succ]
  refine wpAnyH_take (i := 8) (v := ?_) rfl (by kernel_rfl) (by kernel_rfl) (by kernel_rfl) (fun _ _ _ h => h) (Or.inl ⟨by rfl, ?_⟩) (by assumption) ?_
  rotate_left
  (focus (intro w0 hSw; (try dsimp only at hSw); go_simp <;> with_reducible rfl))
  simp only [List.getElem_toArray, List.getElem_cons_succ, List.getElem_cons_zero, Act.put, List.setIfInBounds_toArray, List.set_cons_zero, List.set_cons_succ]
  refine wpAnyH_take (i := 9) (v := ?_) rfl (by kernel_rfl) (by kernel_rfl) (by kernel_rfl) (fun _ _ _ h => h) (Or.inl ⟨by rfl, ?_⟩) (by assumption) ?_
  rotate_left
  (focus (intro w0 hSw; (try dsimp only at hSw); go_simp <;> with_reducible rfl))
  simp only [List.getElem_toArray, List.getElem_cons_succ, List.getElem_cons_zero, Act.put, List.setIfInBounds_toArray, List.set_cons_zero, List.set_cons_succ]
  refine wpAnyH_take (i := 10) (v := ?_) rfl (by kernel_rfl) (by kernel_rfl) (by kernel_rfl) (fun _ _ _ h => h) (Or.inl ⟨by rfl, ?_⟩) (by assumption) ?_
  rotate_left
  (focus (intro w0 hSw; (try dsimp only at hSw); go_simp <;> with_reducible rfl))
  simp only [List.getElem_toArray, List.getElem_cons_succ, List.getElem_cons_zero, Act.put, List.setIfInBounds_toArray, List.set_cons_zero, List.set_cons_succ]
  refine wpAnyH_take (i := 11) (v := ?_) rfl (by kernel_rfl) (by kernel_rfl) (by kernel_rfl) (fun _ _ _ h => h) (Or.inl ⟨by rfl, ?_⟩) (by assumption) ?_
  rotate_left
  (focus (intro w0 hSw; (try dsimp only at hSw); go_simp <;> with_reducible rfl))
  simp only [List.getElem_toArray, List.getElem_cons_succ, List.getElem_cons_zero, Act.put, List.setIfInBounds_toArray, List.set_cons_zero, List.set_cons_succ]
  refine wpAnyH_take (i := 12) (v := ?_) rfl (by kernel_rfl) (by kernel_rfl) (by kernel_rfl) (fun _ _ _ h => h) (Or.inl ⟨by rfl, ?_⟩) (by assumption) ?_
  rotate_left
  (focus (intro w0 hSw; (try dsimp only at hSw); go_simp <;> with_reducible rfl))
  simp only [List.getElem_toArray, List.getElem_cons_succ, List.getElem_cons_zero, Act.put, List.setIfInBounds_toArray, List.set_cons_zero, List.set_cons_succ]
  refine wpAnyH_take (i := 13) (v := ?_) rfl (by kernel_rfl) (by kernel_rfl) (by kernel_rfl) (fun _ _ _ h => h) (Or.inl ⟨by rfl, ?_⟩) (by assumption) ?_
  rotate_left
  (focus (intro w0 hSw; (try dsimp only at hSw); go_simp <;> with_reducible rfl))
  simp only [List.getElem_toArray, List.getElem_cons_succ, List.getElem_cons_zero, Act.put, List.setIfInBounds_toArray, List.set_cons_zero, List.set_cons_succ]
  refine wpAnyH_take (i := 14) (v := ?_) rfl (by kernel_rfl) (by kernel_rfl) (by kernel_rfl) (fun _ _ _ h => h) (Or.inl ⟨by rfl, ?_⟩) (by assumption) ?_
  rotate_left
  (focus (intro w0 hSw; (try dsimp only at hSw); go_simp <;> with_reducible rfl))
  simp only [List.getElem_toArray, List.getElem_cons_succ, List.getElem_cons_zero, Act.put, List.setIfInBounds_toArray, List.set_cons_zero, List.set_cons_succ]
  refine wpAnyH_take (i := 15) (v := ?_) rfl (by kernel_rfl) (by kernel_rfl) (by kernel_rfl) (fun _ _ _ h => h) (Or.inl ⟨by rfl, ?_⟩) (by assumption) ?_
  rotate_left
  (focus (intro w0 hSw; (try dsimp only at hSw); go_simp <;> with_reducible rfl))
  simp only [List.getElem_toArray, List.getElem_cons_succ, List.getElem_cons_zero, Act.put, List.setIfInBounds_toArray, List.set_cons_zero, List.set_cons_succ]
  refine wpAnyH_take (i := 16) (v := ?_) rfl (by kernel_rfl) (by kernel_rfl) (by kernel_rfl) (fun _ _ _ h => h) (Or.inl ⟨by rfl, ?_⟩) (by assumption) ?_
  rotate_left
  (focus (intro w0 hSw; (try dsimp only at hSw); go_simp <;> with_reducible rfl))
  simp only [List.getElem_toArray, List.getElem_cons_succ, List.getElem_cons_zero, Act.put, List.setIfInBounds_toArray, List.set_cons_zero, List.set_cons_succ]
  refine wpAnyH_take (i := 17) (v := ?_) rfl (by kernel_rfl) (by kernel_rfl) (by kernel_rfl) (fun _ _ _ h => h) (Or.inl ⟨by rfl, ?_⟩) (by assumption) ?_
  rotate_left
  (focus (intro w0 hSw; (try dsimp only at hSw); go_simp <;> with_reducible rfl))
  simp only [List.getElem_toArray, List.getElem_cons_succ, List.getElem_cons_zero, Act.put, List.setIfInBounds_toArray, List.set_cons_zero, List.set_cons_succ]
  refine wpAnyH_take (i := 18) (v := ?_) rfl (by kernel_rfl) (by kernel_rfl) (by kernel_rfl) (fun _ _ _ h => h) (Or.inl ⟨by rfl, ?_⟩) (by assumption) ?_
  rotate_left
  (focus (intro w0 hSw; (try dsimp only at hSw); go_simp <;> with_reducible rfl))
  simp only [List.getElem_toArray, List.getElem_cons_succ, List.getElem_cons_zero, Act.put, List.setIfInBounds_toArray, List.set_cons_zero, List.set_cons_succ]
  refine wpAnyH_take (i := 19) (v := ?_) rfl (by kernel_rfl) (by kernel_rfl) (by kernel_rfl) (fun _ _ _ h => h) (Or.inl ⟨by rfl, ?_⟩) (by assumption) ?_
  rotate_left
  (focus (intro w0 hSw; (try dsimp only at hSw); go_simp <;> with_reducible rfl))
  simp only [List.getElem_toArray, List.getElem_cons_succ, List.getElem_cons_zero, Act.put, List.setIfInBounds_toArray, List.set_cons_zero, List.set_cons_succ]
  refine wpAnyH_take (i := 20) (v := ?_) rfl (by kernel_rfl) (by kernel_rfl) (by kernel_rfl) (fun _ _ _ h => h) (Or.inl ⟨by rfl, ?_⟩) (by assumption) ?_
  rotate_left
  (focus (intro w0 hSw; (try dsimp only at hSw); go_simp <;> with_reducible rfl))
  simp only [List.getElem_toArray, List.getElem_cons_succ, List.getElem_cons_zero, Act.put, List.setIfInBounds_toArray, List.set_cons_zero, List.set_cons_succ]
  refine wpAnyH_take (i := 21) (v := ?_) rfl (by kernel_rfl) (by kernel_rfl) (by kernel_rfl) (fun _ _ _ h => h) (Or.inl ⟨by rfl, ?_⟩) (by assumption) ?_
  rotate_left
  (focus (intro w0 hSw; (try dsimp only at hSw); go_simp <;> with_reducible rfl))
  simp only [List.getElem_toArray, List.getElem_cons_succ, List.getElem_cons_zero, Act.put, List.setIfInBounds_toArray, List.set_cons_zero, List.set_cons_succ]
  refine wpAnyH_take (i := 22) (v := ?_) rfl (by kernel_rfl) (by kernel_rfl) (by kernel_rfl) (fun _ _ _ h => h) (Or.inl ⟨by rfl, ?_⟩) (by assumption) ?_
  rotate_left
  (focus (intro w0 hSw; (try dsimp only at hSw); go_simp <;> with_reducible rfl))
  simp only [List.getElem_toArray, List.getElem_cons_succ, List.getElem_cons_zero, Act.put, List.setIfInBounds_toArray, List.set_cons_zero, List.set_cons_succ]
  refine wpAnyH_ready (rs := [23]) (by kernel_rfl) (by simp) ?_
  refine AllReadyH.cons (o := _) rfl (fun K hK => ?_) ?_
  rotate_left
  exact AllReadyH.nil
  go_simp
  go_at_call 29
  refine (docOfQ_c (z := 2) (by decide) (by decide)).mono ?_
  rintro e w11 ⟨s5, x5, n5, c5, f5, y5, m5, d5, g5, rfl, hb11, h5⟩
  replace HB9 := hid (HB9.out.trans (hb11.mono HB9.out.size)); replace HS9 := hid (HS9.out.below hb11); replace HR3 := hid (HR3.out.below hb11); have HR5 := hid h5
  (try go_wp2_with fail)
  refine hK.out _ _ ?_ (fun hH1 => ?_)
  · ((try dsimp only); (refine ⟨?_, ?_, ?_⟩ <;> repeat (with_reducible first | assumption | refine kCb (by assumption) ?_)))
  clear hK K
  try simp only [Act.put, List.setIfInBounds_toArray, List.set_cons_zero, List.set_cons_succ]
  refine wpAnyH_ready (rs := [24]) (by kernel_rfl) (by simp) ?_
  refine AllReadyH.cons (o := _) rfl (fun K hK => ?_) ?_
  rotate_left
  exact AllReadyH.nil
  go_simp
  go_at_call 30
  refine (rSameEq_c HR3.out HR5.out (by decide) (by decide)).mono ?_
  rintro e w12 ⟨rfl, hb12⟩
  replace HB9 := hid (HB9.out.trans (hb12.mono HB9.out.size)); replace HS9 := hid (HS9.out.below hb12)
  (try go_wp2_with fail)
  refine hK.out _ _ ?_ (fun hH2 => ?_)
  · ((try dsimp only); (refine ⟨?_, ?_, ?_⟩ <;> repeat (with_reducible first | assumption | refine kCb (by assumption) ?_)))
  clear hK K
  try simp only [Act.put, List.setIfInBounds_toArray, List.set_cons_zero, List.set_cons_succ]
  refine wpAnyH_take (i := 25) (v := ?_) rfl (by kernel_rfl) (by kernel_rfl) (by kernel_rfl) (fun _ _ _ h => h) (Or.inl ⟨by rfl, ?_⟩) (by assumption) ?_
  rotate_left
  (focus (intro w0 hSw; (try dsimp only at hSw); go_simp <;> with_reducible rfl))
  simp only [List.getElem_toArray, List.getElem_cons_succ, List.getElem_cons_zero, Act.put, List.setIfInBounds_toArray, List.set_cons_zero, List.set_cons_succ]
  refine wpAnyH_take (i := 26) (v := ?_) rfl (by kernel_rfl) (by kernel_rfl) (by kernel_rfl) (fun _ _ _ h => h) (Or.inl ⟨by rfl, ?_⟩) (by assumption) ?_
  rotate_left
  (focus (intro w0 hSw; (try dsimp only at hSw); go_simp <;> with_reducible rfl))
  simp only [List.getElem_toArray, List.getElem_cons_succ, List.getElem_cons_zero, Act.put, List.setIfInBounds_toArray, List.set_cons_zero, List.set_cons_succ]
  refine wpAnyH_take (i := 27) (v := ?_) rfl (by kernel_rfl) (by kernel_rfl) (by kernel_rfl) (fun _ _ _ h => h) (Or.inl ⟨by rfl, ?_⟩) (by assumption) ?_
  rotate_left
  (focus (intro w0 hSw; (try dsimp only at hSw); go_simp <;> with_reducible rfl))
  simp only [List.getElem_toArray, List.getElem_cons_succ, List.getElem_cons_zero, Act.put, List.setIfInBounds_toArray, List.set_cons_zero, List.set_cons_succ]
  refine wpAnyH_take (i := 28) (v := ?_) rfl (by kernel_rfl) (by kernel_rfl) (by kernel_rfl) (fun _ _ _ h => h) (Or.inl ⟨by rfl, ?_⟩) (by assumption) ?_
  rotate_left
  (focus (intro w0 hSw; (try dsimp only at hSw); go_simp <;> with_reducible rfl))
  simp only [List.getElem_toArray, List.getElem_cons_succ, List.getElem_cons_zero, Act.put, List.setIfInBounds_toArray, List.set_cons_zero, List.set_cons_succ]
  refine wpAnyH_take (i := 29) (v := ?_) rfl (by kernel_rfl) (by kernel_rfl) (by kernel_rfl) (fun _ _ _ h => h) (Or.inl ⟨by rfl, ?_⟩) (by assumption) ?_
  rotate_left
  (focus (intro w0 hSw; (try dsimp only at hSw); go_simp <;> with_reducible rfl))
  simp only [List.getElem_toArray, List.getElem_cons_succ, List.getElem_cons_zero, Act.put, List.setIfInBounds_toArray, List.set_cons_zero, List.set_cons_succ]
  refine wpAnyH_take (i := 30) (v := ?_) rfl (by kernel_rfl) (by kernel_rfl) (by kernel_rfl) (fun _ _ _ h => h) (Or.inl ⟨by rfl, ?_⟩) (by assumption) ?_
  rotate_left
  (focus (intro w0 hSw; (try dsimp only at hSw); go_simp <;> with_reducible rfl))
  simp only [List.getElem_toArray, List.getElem_cons_succ, List.getElem_cons_zero, Act.put, List.setIfInBounds_toArray, List.set_cons_zero, List.set_cons_succ]
  refine wpAnyH_take (i := 31) (v := ?_) rfl (by kernel_rfl) (by kernel_rfl) (by kernel_rfl) (fun _ _ _ h => h) (Or.inl ⟨by rfl, ?_⟩) (by assumption) ?_
  rotate_left
  (focus (intro w0 hSw; (try dsimp only at hSw); go_simp <;> with_reducible rfl))
  simp only [List.getElem_toArray, List.getElem_cons_succ, List.getElem_cons_zero, Act.put, List.setIfInBounds_toArray, List.set_cons_zero, List.set_cons_succ]
  refine wpAnyH_take (i := 32) (v := ?_) rfl (by kernel_rfl) (by kernel_rfl) (by kernel_rfl) (fun _ _ _ h => h) (Or.inl ⟨by rfl, ?_⟩) (by assumption) ?_
  rotate_left
  (focus (intro w0 hSw; (try dsimp only at hSw); go_simp <;> with_reducible rfl))
  simp only [List.getElem_toArray, List.getElem_cons_succ, List.getElem_cons_zero, Act.put, List.setIfInBounds_toArray, List.set_cons_zero, List.set_cons_succ]
  refine wpAnyH_take (i := 33) (v := ?_) rfl (by kernel_rfl) (by kernel_rfl) (by kernel_rfl) (fun _ _ _ h => h) (Or.inl ⟨by rfl, ?_⟩) (by assumption) ?_
  rotate_left
  (focus (intro w0 hSw; (try dsimp only at hSw); go_simp <;> with_reducible rfl))
  simp only [List.getElem_toArray, List.getElem_cons_succ, List.getElem_cons_zero, Act.put, List.setIfInBounds_toArray, List.set_cons_zero, List.set_cons_succ]
  refine wpAnyH_take (i := 34) (v := ?_) rfl (by kernel_rfl) (by kernel_rfl) (by kernel_rfl) (fun _ _ _ h => h) (Or.inl ⟨by rfl, ?_⟩) (by assumption) ?_
  rotate_left
  (focus (intro w0 hSw; (try dsimp only at hSw); go_simp <;> with_reducible rfl))
  simp only [List.getElem_toArray, List.getElem_cons_succ, List.getElem_cons_zero, Act.put, List.setIfInBounds_toArray, List.set_cons_zero, List.set_cons_succ]
  refine wpAnyH_take (i := 35) (v := ?_) rfl (by kernel_rfl) (by kernel_rfl) (by kernel_rfl) (fun _ _ _ h => h) (Or.inl ⟨by rfl, ?_⟩) (by assumption) ?_
  rotate_left
  (focus (intro w0 hSw; (try dsimp only at hSw); go_simp <;> with_reducible rfl))
  simp only [List.getElem_toArray, List.getElem_cons_succ, List.getElem_cons_zero, Act.put, List.setIfInBounds_toArray, List.set_cons_zero, List.set_cons_succ]
  refine wpAnyH_take (i := 36) (v := ?_) rfl (by kernel_rfl) (by kernel_rfl) (by kernel_rfl) (fun _ _ _ h => h) (Or.inl ⟨by rfl, ?_⟩) (by assumption) ?_
  rotate_left
  (focus (intro w0 hSw; (try dsimp only at hSw); go_simp <;> with_reducible rfl))
  simp only [List.getElem_toArray, List.getElem_cons_succ, List.getElem_cons_zero, Act.put, List.setIfInBounds_toArray, List.set_cons_zero, List.set_cons_succ]
  refine wpAnyH_take (i := 37) (v := ?_) rfl (by kernel_rfl) (by kernel_rfl) (by kernel_rfl) (fun _ _ _ h => h) (Or.inl ⟨by rfl, ?_⟩) (by assumption) ?_
  rotate_left
  (focus (intro w0 hSw; (try dsimp only at hSw); go_simp <;> with_reducible rfl))
  simp only [List.getElem_toArray, List.getElem_cons_succ, List.getElem_cons_zero, Act.put, List.setIfInBounds_toArray, List.set_cons_zero, List.set_cons_succ]
  refine wpAnyH_take (i := 38) (v := ?_) rfl (by kernel_rfl) (by kernel_rfl) (by kernel_rfl) (fun _ _ _ h => h) (Or.inl ⟨by rfl, ?_⟩) (by assumption) ?_
  rotate_left
  (focus (intro w0 hSw; (try dsimp only at hSw); go_simp <;> with_reducible rfl))
  simp only [List.getElem_toArray, List.getElem_cons_succ, List.getElem_cons_zero, Act.put, List.setIfInBounds_toArray, List.set_cons_zero, List.set_cons_succ]
  refine wpAnyH_take (i := 39) (v := ?_) rfl (by kernel_rfl) (by kernel_rfl) (by kernel_rfl) (fun _ _ _ h => h) (Or.inl ⟨by rfl, ?_⟩) (by assumption) ?_
  rotate_left
  (focus (intro w0 hSw; (try dsimp only at hSw); go_simp <;> with_reducible rfl))
  simp only [List.getElem_toArray, List.getElem_cons_succ, List.getElem_cons_zero, Act.put, List.setIfInBounds_toArray, List.set_cons_zero, List.set_cons_succ]
  refine wpAnyH_ready (rs := [40]) (by kernel_rfl) (by simp) ?_
  refine AllReadyH.cons (o := _) rfl (fun K hK => ?_) ?_
  rotate_left
  exact AllReadyH.nil
  go_simp
  go_at_call 11
  refine (stight_c HS9.out).mono ?_
  rintro e w13 ⟨rfl, rfl⟩
  (try go_wp2_with fail)
  refine hK.out _ _ ?_ (fun hH3 => ?_)
  · exact hH2
  clear hK K
  try simp only [Act.put, List.setIfInBounds_toArray, List.set_cons_zero, List.set_cons_succ]
  refine wpAnyH_take (i := 41) (v := ?_) rfl (by kernel_rfl) (by kernel_rfl) (by kernel_rfl) (fun _ _ _ h => h) (Or.inl ⟨by rfl, ?_⟩) (by assumption) ?_
  rotate_left
  (focus (intro w0 hSw; (try dsimp only at hSw); go_simp <;> with_reducible rfl))
  simp only [List.getElem_toArray, List.getElem_cons_succ, List.getElem_cons_zero, Act.put, List.setIfInBounds_toArray, List.set_cons_zero, List.set_cons_succ]
  refine wpAnyH_take (i := 42) (v := ?_) rfl (by kernel_rfl) (by kernel_rfl) (by kernel_rfl) (fun _ _ _ h => h) (Or.inl ⟨by rfl, ?_⟩) (by assumption) ?_
  rotate_left
  (focus (intro w0 hSw; (try dsimp only at hSw); go_simp <;> with_reducible rfl))
  simp only [List.getElem_toArray, List.getElem_cons_succ, List.getElem_cons_zero, Act.put, List.setIfInBounds_toArray, List.set_cons_zero, List.set_cons_succ]
  refine wpAnyH_take (i := 43) (v := ?_) rfl (by kernel_rfl) (by kernel_rfl) (by kernel_rfl) (fun _ _ _ h => h) (Or.inl ⟨by rfl, ?_⟩) (by assumption) ?_
  rotate_left
  (focus (intro w0 hSw; (try dsimp only at hSw); go_simp <;> with_reducible rfl))
  simp only [List.getElem_toArray, List.getElem_cons_succ, List.getElem_cons_zero, Act.put, List.setIfInBounds_toArray, List.set_cons_zero]
  refine wpAnyH_done (by kernel_rfl) ?_ _
  go_wp2
  go_ret
  exact ⟨rfl, HB9.out⟩
end Go.Proofs.Ytllpllebmknmpaa

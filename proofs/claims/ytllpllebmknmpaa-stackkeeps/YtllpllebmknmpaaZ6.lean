/-
  The walks of the reference's Same of points, of certificates and of bases that are alike; of the calls of a nil stack; of StackNone (written by makers/o6.py). Lists of numbers that are copies; the walk of law17's lists, and what it answers. A drawn region as a flow: operations that make values or new memory (calls, builds, lists that are built) in whatever order, each shown once; behind them those that must come last. No Go text is named here. The walk of stack's Cert, of a stack without steps (written by makers/o9.py). Lists of statuses: their errors, copies of them; the reference's Twin of bases; stack's checkCorner (written by makers/o11.py). The walk of stack's Basis, of a stack without steps (written by makers/o12.py). The walk of StackCerts (written by makers/o10.py). The walk of StackSame (written by makers/o13.py). The walk of StackKeeps (written by makers/o14.py).
-/
import Derived.Test.YtllpllebmknmpaaZ5
import Derived.Test.YtllpllebmknmpaaZ3
import Derived.Test.YtllpllebmknmpaaZ0
import Derived.Deep.RegionHeld3
import Derived.Deep.Upon
import Derived.Deep.CutRange
namespace Go.Proofs.Ytllpllebmknmpaa
open Go.RowKit

theorem El.below {w w' ao k E} (h : El w ao k E) (hb : Below w.heap.size w w') : El w' ao k E := fun j hj => by
  obtain ⟨b, o, e, h1⟩ := h j hj
  exact ⟨b, o, e, kCb hb h1⟩
set_option maxRecDepth 100000 in
set_option maxHeartbeats 4000000 in
theorem samePt_c {w : World} {L L2 : Nat} {a0 b0 a1 b1 a2 b2 : Option Addr} {k0 c0 d0 k1 c1 d1 k2 c2 d2 : Nat} {p0 p1 p2 : List Rat} (ha0 : Rf L w a0 p0) (hb0 : Rf L2 w b0 p0) (hk0 : p0.length = k0) (hl0 : k0 ≤ 1048576) (ha1 : Rf L w a1 p1) (hb1 : Rf L2 w b1 p1) (hk1 : p1.length = k1) (hl1 : k1 ≤ 1048576) (ha2 : Rf L w a2 p2) (hb2 : Rf L2 w b2 p2) (hk2 : p2.length = k2) (hl2 : k2 ≤ 1048576) (hL : L ≤ 1048576) (hL2 : L2 ≤ 1048576) :
    Calls Try.prog 21 #[.agg #[.slice a0 k0 c0, .slice a1 k1 c1, .slice a2 k2 c2], .agg #[.slice b0 k0 d0, .slice b1 k1 d1, .slice b2 k2 d2]] w fun e w' => e = .returned (.bool true) ∧ Below w.heap.size w w' := by
  have C0 := hid (fun W (hW : Below w.heap.size w W) => samesEq_c (w := W) (ca := c0) (cb := d0) (ha0.below hW) (hb0.below hW) hk0 hl0 hL hL2)
  have C1 := hid (fun W (hW : Below w.heap.size w W) => samesEq_c (w := W) (ca := c1) (cb := d1) (ha1.below hW) (hb1.below hW) hk1 hl1 hL hL2)
  have C2 := hid (fun W (hW : Below w.heap.size w W) => samesEq_c (w := W) (ca := c2) (cb := d2) (ha2.below hW) (hb2.below hW) hk2 hl2 hL hL2)
  clear ha0 hb0 ha1 hb1 ha2 hb2
  have hb := below_alloc (below_alloc (Below.refl w.heap.size w) (.cells #[.slice a0 k0 c0, .slice a1 k1 c1, .slice a2 k2 c2] 32)) (.cells #[.slice b0 k0 d0, .slice b1 k1 d1, .slice b2 k2 d2] 32)
  have B1 : Bk ((w.alloc (.cells #[.slice a0 k0 c0, .slice a1 k1 c1, .slice a2 k2 c2] 32)).alloc (.cells #[.slice b0 k0 d0, .slice b1 k1 d1, .slice b2 k2 d2] 32)) w.heap.size [.slice a0 k0 c0, .slice a1 k1 c1, .slice a2 k2 c2] 32 := (bk_new w [.slice a0 k0 c0, .slice a1 k1 c1, .slice a2 k2 c2] 32).below (below_alloc (Below.refl _ _) (.cells #[.slice b0 k0 d0, .slice b1 k1 d1, .slice b2 k2 d2] 32))
  have B2 : Bk ((w.alloc (.cells #[.slice a0 k0 c0, .slice a1 k1 c1, .slice a2 k2 c2] 32)).alloc (.cells #[.slice b0 k0 d0, .slice b1 k1 d1, .slice b2 k2 d2] 32)) (w.heap.size + 1) [.slice b0 k0 d0, .slice b1 k1 d1, .slice b2 k2 d2] 32 := by
    have := bk_new (w.alloc (.cells #[.slice a0 k0 c0, .slice a1 k1 c1, .slice a2 k2 c2] 32)) [.slice b0 k0 d0, .slice b1 k1 d1, .slice b2 k2 d2] 32
    rw [size_alloc1] at this
    exact this
  go_enter Try.func21, Try.ntmps21
  go_upto_region 1 with fail
  generalize (w.alloc (.cells #[.slice a0 k0 c0, .slice a1 k1 c1, .slice a2 k2 c2] 32)).alloc (.cells #[.slice b0 k0 d0, .slice b1 k1 d1, .slice b2 k2 d2] 32) = w1 at *
  have HB := hid hb; have HB1 := hid B1; have HB2 := hid B2
  clear hb B1 B2
  have r0 := HB1.out.cell (j := 0) rfl
  have l0 := HB2.out.cell (j := 0) rfl
  go_wp2_with fail
  refine (C0.out _ HB.out).mono ?_
  rintro e w2 ⟨rfl, hb0⟩
  replace HB := hid (HB.out.trans (hb0.mono HB.out.size)); replace HB1 := hid (HB1.out.below hb0); replace HB2 := hid (HB2.out.below hb0)
  clear hb0 r0 l0
  have r1 := HB1.out.cell (j := 1) rfl
  have l1 := HB2.out.cell (j := 1) rfl
  go_wp2_with fail
  refine (C1.out _ HB.out).mono ?_
  rintro e w3 ⟨rfl, hb1⟩
  replace HB := hid (HB.out.trans (hb1.mono HB.out.size)); replace HB1 := hid (HB1.out.below hb1); replace HB2 := hid (HB2.out.below hb1)
  clear hb1 r1 l1
  have r2 := HB1.out.cell (j := 2) rfl
  have l2 := HB2.out.cell (j := 2) rfl
  go_wp2_with fail
  refine (C2.out _ HB.out).mono ?_
  rintro e w4 ⟨rfl, hb2⟩
  replace HB := hid (HB.out.trans (hb2.mono HB.out.size)); replace HB1 := hid (HB1.out.below hb2); replace HB2 := hid (HB2.out.below hb2)
  clear hb2 r2 l2
  go_wp2
  go_ret
  exact ⟨rfl, HB.out⟩
end Go.Proofs.Ytllpllebmknmpaa
namespace Go.Proofs.Ytllpllebmknmpaa
open Go.RowKit

/-- A value that is a list of the same numbers. -/
def RS (k : Nat) (X : Nat → Nm) (v : Value) (w : World) : Prop := ∃ ao c Y, v = .slice ao k c ∧ Rl w ao k Y ∧ ∀ j, j < k → Sn (X j) (Y j)
theorem RS.below {k X v w w'} (h : RS k X v w) (hb : Below w.heap.size w w') : RS k X v w' := by
  obtain ⟨ao, c, Y, h1, h2, h3⟩ := h
  exact ⟨ao, c, Y, h1, h2.below hb, h3⟩
theorem RS.st {k X v} {w w' : World} {B : Nat} (h : RS k X v w) (hk : Kp w w') (hne : ∀ b, b ≠ B → w'.heap[b]? = w.heap[b]?) (hnb : ∀ o s, w.cell? ⟨B, o, none⟩ ≠ some (.bool s)) : RS k X v w' := by
  obtain ⟨ao, c, Y, h1, h2, h3⟩ := h
  exact ⟨ao, c, Y, h1, h2.st hk hne hnb, h3⟩
theorem Sn.trans {a b c : Nm} (h : Sn a b) (k : Sn b c) : Sn a c := by
  obtain ⟨h1, h2, h3, h4, h5⟩ := h
  obtain ⟨k1, k2, k3, k4, k5⟩ := k
  exact ⟨k1.trans h1, k2.trans h2, k3.trans h3, k4.trans h4, k5.trans h5⟩
theorem Cp.rs {w base g k X Y} {ao : Option Addr} {w0 : World} (h : Cp w base g k k X Y) (hx : Rl w0 ao k X) : RS k X (.slice (some ⟨g, 0, none⟩) k k) w := ⟨_, _, Y, rfl, h.rl hx, fun j hj => (h.el j hj).2.1⟩
/-- Lists with the same numbers, in form, compare equal. -/
theorem sames_of {w : World} {ao bo : Option Addr} {k : Nat} {X Y : Nat → Nm} {K : Nat} (hX : Rl w ao k X) (hY : Rl w bo k Y) (hs : ∀ j, j < k → Sn (X j) (Y j)) (hf : afB k X = true) (hK : ∀ j, j < k → (X j).n ≤ K ∧ (X j).m ≤ K) : ∃ p : List Rat, p.length = k ∧ Rf K w ao p ∧ Rf K w bo p := by
  obtain ⟨p, h1, h2, h3⟩ := rl_rf hX hf hK
  refine ⟨p, h1, h2, fun j q hj => ?_⟩
  have hlt : j < k := by have := (List.getElem?_eq_some_iff.1 hj).1; omega
  obtain ⟨q', h4, h5⟩ := h3 j hlt
  rw [hj] at h4
  obtain rfl := Option.some.inj h4
  obtain ⟨b, o, e, h6, h7⟩ := hY j hlt
  exact ⟨b, o, Y j, e, h6, h5.sn (hs j hlt) h7.1⟩
theorem pnE_sn {k : Nat} {X Y : Nat → Nm} {z : Int} (h : ∀ j, j < k → Sn (X j) (Y j)) : pnE k Y z = pnE k X z := by
  have : afB k Y = afB k X := afr_sn (r := k) (i := 0) (fun j _ hj => h j (by omega))
  unfold pnE
  rw [this]
/-- A list of lists of numbers. -/
def LL (w : World) (ao : Option Addr) (m : Nat) (P : Nat → Option Addr) (K C : Nat → Nat) (X : Nat → Nat → Nm) : Prop :=
  ∀ i, i < m → ∃ b o, ao = some ⟨b, o, none⟩ ∧ w.cell? ⟨b, o + i, none⟩ = some (.slice (P i) (K i) (C i)) ∧ Rl w (P i) (K i) (X i) ∧ K i ≤ 10000 ∧ ∀ j, j < K i → (X i j).n ≤ 1000 ∧ (X i j).m ≤ 1000
theorem LL.below {w w' ao m P K C X} (h : LL w ao m P K C X) (hb : Below w.heap.size w w') : LL w' ao m P K C X := fun i hi => by
  obtain ⟨b, o, e, h1, h2, h3⟩ := h i hi
  exact ⟨b, o, e, kCb hb h1, h2.below hb, h3⟩
def lmin (a b : Int) : Int := lsf (two a b) 2
def lstp (z e : Int) (k : Nat) (X : Nat → Nm) : Int := if (k : Int) = z then (if afB k X = true then e else lmin e 3) else lmin (if afB k X = true then e else lmin e 3) 7
def lstF (z : Int) (K : Nat → Nat) (X : Nat → Nat → Nm) : Nat → Int
  | 0 => 0
  | i + 1 => lstp z (lstF z K X i) (K i) (X i)
theorem pnE_in (k : Nat) (X : Nat → Nm) (z : Int) : pnE k X z = 0 ∨ pnE k X z = 3 ∨ pnE k X z = 7 := by
  unfold pnE
  split
  · split
    · exact .inl rfl
    · exact .inr (.inr rfl)
  · exact .inr (.inl rfl)
theorem lstp_min {z e : Int} {k : Nat} {X : Nat → Nm} (he : e = 0 ∨ e = 3 ∨ e = 7) : lstp z e k X = lmin e (pnE k X z) := by
  unfold lstp pnE
  by_cases h1 : (k : Int) = z
  · by_cases h2 : afB k X = true
    · rw [if_pos h1, if_pos h2, if_pos h2, if_pos h1]; rcases he with rfl | rfl | rfl <;> decide
    · rw [if_pos h1, if_neg h2, if_neg h2]
  · by_cases h2 : afB k X = true
    · rw [if_neg h1, if_pos h2, if_pos h2, if_neg h1]
    · rw [if_neg h1, if_neg h2, if_neg h2]; rcases he with rfl | rfl | rfl <;> decide
theorem lstF_one {z : Int} {K : Nat → Nat} {X : Nat → Nat → Nm} : lstF z K X 1 = pnE (K 0) (X 0) z := by
  show lstp z 0 _ _ = _
  rw [lstp_min (.inl rfl)]
  rcases pnE_in (K 0) (X 0) z with h | h | h <;> rw [h] <;> decide
theorem lstF_two {z : Int} {K : Nat → Nat} {X : Nat → Nat → Nm} : lstF z K X 2 = lmin (pnE (K 0) (X 0) z) (pnE (K 1) (X 1) z) := by
  show lstp z (lstF z K X 1) _ _ = _
  rw [lstF_one, lstp_min (pnE_in _ _ _)]

set_option maxRecDepth 100000 in
set_option maxHeartbeats 4000000 in
theorem lists_c {w : World} {ao : Option Addr} {m cap : Nat} {P : Nat → Option Addr} {K C : Nat → Nat} {X : Nat → Nat → Nm} {z : Int} (h : LL w ao m P K C X) (hm : m ≤ 1048576) :
    Calls Try.prog 15 #[.int .i64 z, .slice ao m cap] w fun e w' => e = .returned (.int .i64 (lstF z K X m)) ∧ Below w.heap.size w w' := by
  have H := hid h
  clear h
  go_enter Try.func15, Try.ntmps15
  go_wp2_with fail
  go_loopw [5, 10] (fun l t wr => ∃ (i : Nat) (v : Int), i ≤ m ∧ t = .int .i64 i ∧ l = .int .i64 v ∧ Hid (Below w.heap.size w wr) ∧ Hid (lstF z K X i = v)) (fun _ t _ => m - (intOf t).toNat)
  case atStart => exact ⟨0, 0, by omega, rfl, rfl, Below.refl _ _, rfl⟩
  case round =>
    obtain ⟨i, v, hi, rfl, rfl, HB, HI⟩ := hrel
    by_cases hlt : i < m
    · obtain ⟨b, o, rfl, hc, hx, hk, hl⟩ := (H.out.below HB.out) i hlt
      obtain ⟨p, hp⟩ : ∃ p, P i = p := ⟨_, rfl⟩
      obtain ⟨k, hk2⟩ : ∃ k, K i = k := ⟨_, rfl⟩
      obtain ⟨c, hc2⟩ : ∃ c, C i = c := ⟨_, rfl⟩
      have hT : lstF z K X (i + 1) = lstp z v k (X i) := by show lstp z (lstF z K X i) (K i) (X i) = _; rw [HI.out, hk2]
      rw [hp, hk2, hc2] at hc
      rw [hp, hk2] at hx
      rw [hk2] at hk hl
      have CF := hid (forms_c (cap := c) hx hk hl)
      have HT := hid hT
      have i1 : ((i : Nat) : Int) < ((m : Nat) : Int) := by omega
      clear hp hk2 hc2 hT hx hl HI
      cases hf : afB k (X i)
      · rw [hf] at CF
        have HF := hid hf
        clear hf
        obtain ⟨v1, hv1⟩ : ∃ v1, lmin v 3 = v1 := ⟨_, rfl⟩
        have HV := hid hv1
        clear hv1
        go_wp2_with fail
        refine CF.out.mono ?_
        rintro e w1 ⟨rfl, hb1⟩
        have HB1 := hid (HB.out.trans (hb1.mono HB.out.size))
        clear hb1
        have hbA := below_alloc (Below.refl w1.heap.size w1) (.cells #[.int .i64 v, .int .i64 3] 3)
        have HEl := hid (two_el (w := w1) (a := v) (b := 3) (t := 3))
        have HB2 := hid (HB1.out.trans (hbA.mono HB1.out.size))
        clear hbA
        go_wp2_with fail
        generalize w1.alloc (.cells #[.int .i64 v, .int .i64 3] 3) = w2 at *
        refine (fLeast_c HEl.out (by decide)).mono ?_
        rintro e w3 ⟨rfl, rfl⟩
        rw [show lsf (two v 3) 2 = v1 from HV.out]
        by_cases hz : ((k : Nat) : Int) = z
        · have hz1 : (((k : Nat) : Int) != z) = false := by simpa using hz
          have HT2 := hid (show lstF z K X (i + 1) = v1 by rw [HT.out, lstp, if_pos hz, if_neg (by rw [HF.out]; decide)]; exact HV.out)
          clear hz HT CF HEl
          go_wp2
          go_roundw
          case rel => exact ⟨i + 1, v1, by omega, by go_num, rfl, HB2.out, HT2.out⟩
          case measure => simp [intOf]; omega
        · have hz1 : (((k : Nat) : Int) != z) = true := by simpa using hz
          obtain ⟨v2, hv2⟩ : ∃ v2, lmin v1 7 = v2 := ⟨_, rfl⟩
          have HT2 := hid (show lstF z K X (i + 1) = v2 by rw [HT.out, lstp, if_neg hz, if_neg (by rw [HF.out]; decide), HV.out]; exact hv2)
          have HV2 := hid hv2
          have hbA := below_alloc (Below.refl w3.heap.size w3) (.cells #[.int .i64 v1, .int .i64 7] 3)
          have HEl2 := hid (two_el (w := w3) (a := v1) (b := 7) (t := 3))
          have HB3 := hid (HB2.out.trans (hbA.mono HB2.out.size))
          clear hz HT CF HEl hv2 hbA
          go_wp2_with fail
          generalize w3.alloc (.cells #[.int .i64 v1, .int .i64 7] 3) = w4 at *
          refine (fLeast_c HEl2.out (by decide)).mono ?_
          rintro e w5 ⟨rfl, rfl⟩
          rw [show lsf (two v1 7) 2 = v2 from HV2.out]
          go_wp2
          go_roundw
          case rel => exact ⟨i + 1, v2, by omega, by go_num, rfl, HB3.out, HT2.out⟩
          case measure => simp [intOf]; omega
      · rw [hf] at CF
        have HF := hid hf
        clear hf
        go_wp2_with fail
        refine CF.out.mono ?_
        rintro e w3 ⟨rfl, hb1⟩
        have HB2 := hid (HB.out.trans (hb1.mono HB.out.size))
        clear hb1
        by_cases hz : ((k : Nat) : Int) = z
        · have hz1 : (((k : Nat) : Int) != z) = false := by simpa using hz
          have HT2 := hid (show lstF z K X (i + 1) = v by rw [HT.out, lstp, if_pos hz, if_pos HF.out])
          clear hz HT CF
          go_wp2
          go_roundw
          case rel => exact ⟨i + 1, v, by omega, by go_num, rfl, HB2.out, HT2.out⟩
          case measure => simp [intOf]; omega
        · have hz1 : (((k : Nat) : Int) != z) = true := by simpa using hz
          obtain ⟨v2, hv2⟩ : ∃ v2, lmin v 7 = v2 := ⟨_, rfl⟩
          have HT2 := hid (show lstF z K X (i + 1) = v2 by rw [HT.out, lstp, if_neg hz, if_pos HF.out]; exact hv2)
          have HV2 := hid hv2
          have hbA := below_alloc (Below.refl w3.heap.size w3) (.cells #[.int .i64 v, .int .i64 7] 3)
          have HEl2 := hid (two_el (w := w3) (a := v) (b := 7) (t := 3))
          have HB3 := hid (HB2.out.trans (hbA.mono HB2.out.size))
          clear hz HT CF hv2 hbA
          go_wp2_with fail
          generalize w3.alloc (.cells #[.int .i64 v, .int .i64 7] 3) = w4 at *
          refine (fLeast_c HEl2.out (by decide)).mono ?_
          rintro e w5 ⟨rfl, rfl⟩
          rw [show lsf (two v 7) 2 = v2 from HV2.out]
          go_wp2
          go_roundw
          case rel => exact ⟨i + 1, v2, by omega, by go_num, rfl, HB3.out, HT2.out⟩
          case measure => simp [intOf]; omega
    · have e1 : i = m := by omega
      have i1 : ¬ (((i : Nat) : Int) < ((m : Nat) : Int)) := by omega
      rw [e1] at HI
      clear e1
      go_wp2
      go_ret
      refine ⟨?_, HB.out⟩
      rw [HI.out]; rfl
end Go.Proofs.Ytllpllebmknmpaa
namespace Go.Proofs.Ytllpllebmknmpaa
open Go.RowKit

/-- How many of F are not listed. -/
def left (listed : Array Bool) : List Nat → Nat
  | [] => 0
  | x :: F => (if listed.getD x false = true then 0 else 1) + left listed F
end Go.Proofs.Ytllpllebmknmpaa
namespace Go.Proofs.Ytllpllebmknmpaa
open Go.RowKit

end Go.Proofs.Ytllpllebmknmpaa
namespace Go.Proofs.Ytllpllebmknmpaa
open Go.RowKit

theorem El.st {w w' : World} {ao : Option Addr} {k B : Nat} {E : Nat → Int} (h : El w ao k E) (hne : ∀ b, b ≠ B → w'.heap[b]? = w.heap[b]?) (hnb : ∀ o z, w.cell? ⟨B, o, none⟩ ≠ some (.int .i64 z)) : El w' ao k E := fun j hj => by
  obtain ⟨b, o, e, h1⟩ := h j hj
  have hB : b ≠ B := fun e => hnb _ _ (e ▸ h1)
  exact ⟨b, o, e, (World.cell?_of_block (a := ⟨b, o + j, none⟩) (hne b hB)).trans h1⟩
end Go.Proofs.Ytllpllebmknmpaa
namespace Go.Proofs.Ytllpllebmknmpaa
open Go.RowKit

/-- Three lists of the same numbers in one value. -/
def P3v (k0 : Nat) (X0 : Nat → Nm) (k1 : Nat) (X1 : Nat → Nm) (k2 : Nat) (X2 : Nat → Nm) (v : Value) (w : World) : Prop := ∃ p0 q0 p1 q1 p2 q2, v = .agg #[.slice p0 k0 q0, .slice p1 k1 q1, .slice p2 k2 q2] ∧ RS k0 X0 (.slice p0 k0 q0) w ∧ RS k1 X1 (.slice p1 k1 q1) w ∧ RS k2 X2 (.slice p2 k2 q2) w
theorem P3v.below {k0 X0 k1 X1 k2 X2 v w w'} (h : P3v k0 X0 k1 X1 k2 X2 v w) (hb : Below w.heap.size w w') : P3v k0 X0 k1 X1 k2 X2 v w' := by
  obtain ⟨p0, q0, p1, q1, p2, q2, h1, h2, h3, h4⟩ := h
  exact ⟨p0, q0, p1, q1, p2, q2, h1, h2.below hb, h3.below hb, h4.below hb⟩
theorem P3v.st {k0 X0 k1 X1 k2 X2 v} {w w' : World} {B : Nat} (h : P3v k0 X0 k1 X1 k2 X2 v w) (hk : Kp w w') (hne : ∀ b, b ≠ B → w'.heap[b]? = w.heap[b]?) (hnb : ∀ o s, w.cell? ⟨B, o, none⟩ ≠ some (.bool s)) : P3v k0 X0 k1 X1 k2 X2 v w' := by
  obtain ⟨p0, q0, p1, q1, p2, q2, h1, h2, h3, h4⟩ := h
  exact ⟨p0, q0, p1, q1, p2, q2, h1, h2.st hk hne hnb, h3.st hk hne hnb, h4.st hk hne hnb⟩
end Go.Proofs.Ytllpllebmknmpaa
namespace Go.Proofs.Ytllpllebmknmpaa
open Go.RowKit

/-- A list of two lists of numbers. -/
def pick2 {T : Type} (a b : T) (i : Nat) : T := if i = 0 then a else b
theorem ll_two {w : World} {t : TypeId} {a0 a1 : Option Addr} {k0 c0 k1 c1 : Nat} {X0 X1 : Nat → Nm} (h0 : Rl w a0 k0 X0) (h1 : Rl w a1 k1 X1) (l0 : k0 ≤ 10000 ∧ ∀ j, j < k0 → (X0 j).n ≤ 1000 ∧ (X0 j).m ≤ 1000) (l1 : k1 ≤ 10000 ∧ ∀ j, j < k1 → (X1 j).n ≤ 1000 ∧ (X1 j).m ≤ 1000) :
    LL (w.alloc (.cells #[.slice a0 k0 c0, .slice a1 k1 c1] t)) (some ⟨w.heap.size, 0, none⟩) 2 (pick2 a0 a1) (pick2 k0 k1) (pick2 c0 c1) (pick2 X0 X1) := fun i hi => by
  have hb := below_alloc (Below.refl w.heap.size w) (.cells #[.slice a0 k0 c0, .slice a1 k1 c1] t)
  rcases (show i = 0 ∨ i = 1 by omega) with rfl | rfl
  · exact ⟨_, 0, rfl, by simp [go_sem, pick2], h0.below hb, l0⟩
  · exact ⟨_, 0, rfl, by simp [go_sem, pick2], h1.below hb, l1⟩
/-- A value that is a list of two lists. -/
def L2 (a0 : Option Addr) (k0 c0 : Nat) (X0 : Nat → Nm) (a1 : Option Addr) (k1 c1 : Nat) (X1 : Nat → Nm) (v : Value) (w : World) : Prop := ∃ b, v = .slice (some ⟨b, 0, none⟩) 2 2 ∧ LL w (some ⟨b, 0, none⟩) 2 (pick2 a0 a1) (pick2 k0 k1) (pick2 c0 c1) (pick2 X0 X1)
theorem L2.below {a0 k0 c0 X0 a1 k1 c1 X1 v w w'} (h : L2 a0 k0 c0 X0 a1 k1 c1 X1 v w) (hb : Below w.heap.size w w') : L2 a0 k0 c0 X0 a1 k1 c1 X1 v w' := by
  obtain ⟨b, h1, h2⟩ := h
  exact ⟨b, h1, h2.below hb⟩
/-- A value that is a list of two errors. -/
def E2 (a b : Int) (v : Value) (w : World) : Prop := ∃ g, v = .slice (some ⟨g, 0, none⟩) 2 2 ∧ El w (some ⟨g, 0, none⟩) 2 (two a b)
theorem E2.below {a b v w w'} (h : E2 a b v w) (hb : Below w.heap.size w w') : E2 a b v w' := by
  obtain ⟨g, h1, h2⟩ := h
  exact ⟨g, h1, h2.below hb⟩
theorem nlg_lim {k : Nat} {X : Nat → Nm} (h : (decide (k ≤ 300) && nlg 10 X k 0) = true) : k ≤ 300 ∧ ∀ j, j < k → (X j).n ≤ 10 ∧ (X j).m ≤ 10 := by
  simp only [Bool.and_eq_true, decide_eq_true_eq] at h
  exact ⟨h.1, fun j hj => nlg_all h.2 j (by omega) (by omega)⟩
theorem nlgB {k : Nat} {X : Nat → Nm} (h : (decide (k ≤ 300) && nlg 10 X k 0) = true) : nlg 10 X k 0 = true := by
  simp only [Bool.and_eq_true] at h
  exact h.2
end Go.Proofs.Ytllpllebmknmpaa
namespace Go.Proofs.Ytllpllebmknmpaa
open Go.RowKit

/-- Primal's answer in one form. -/
def NumG (w w' : World) (e : Ending) (l : Nat) (X : Nat → Nm) (z : Int) : Prop := ∃ ao lx cx er, e = .returned (.tuple #[.slice ao lx cx, .int .i64 er]) ∧ Below w.heap.size w w' ∧ er = pnE l X z ∧ ((er ≠ 0 ∧ lx = 0) ∨ (er = 0 ∧ lx = l ∧ RS l X (.slice ao lx cx) w'))
theorem NumAns.g {w w' e l X z} {w0 : World} {a : Option Addr} (h : NumAns w w' e l X z) (hx : Rl w0 a l X) : NumG w w' e l X z := by
  obtain ⟨hb, ⟨h0, h1⟩ | ⟨h0, g, Y, h1, h2⟩⟩ := h
  · exact ⟨_, _, _, _, h1, hb, rfl, .inl ⟨h0, rfl⟩⟩
  · exact ⟨_, _, _, _, h1, hb, h0.symm, .inr ⟨rfl, rfl, h2.rs hx⟩⟩
/-- A list of one list of numbers. -/
def pick1 {T : Type} (a : T) (_ : Nat) : T := a
theorem ll_one {w : World} {t : TypeId} {a0 : Option Addr} {k0 c0 : Nat} {X0 : Nat → Nm} (h0 : Rl w a0 k0 X0) (l0 : k0 ≤ 10000 ∧ ∀ j, j < k0 → (X0 j).n ≤ 1000 ∧ (X0 j).m ≤ 1000) :
    LL (w.alloc (.cells #[.slice a0 k0 c0] t)) (some ⟨w.heap.size, 0, none⟩) 1 (pick1 a0) (pick1 k0) (pick1 c0) (pick1 X0) := fun i hi => by
  have hb := below_alloc (Below.refl w.heap.size w) (.cells #[.slice a0 k0 c0] t)
  obtain rfl : i = 0 := by omega
  exact ⟨_, 0, rfl, by simp [go_sem, pick1], h0.below hb, l0⟩
def L1 (a0 : Option Addr) (k0 c0 : Nat) (X0 : Nat → Nm) (v : Value) (w : World) : Prop := ∃ b, v = .slice (some ⟨b, 0, none⟩) 1 1 ∧ LL w (some ⟨b, 0, none⟩) 1 (pick1 a0) (pick1 k0) (pick1 c0) (pick1 X0)
theorem L1.below {a0 k0 c0 X0 v w w'} (h : L1 a0 k0 c0 X0 v w) (hb : Below w.heap.size w w') : L1 a0 k0 c0 X0 v w' := by
  obtain ⟨b, h1, h2⟩ := h
  exact ⟨b, h1, h2.below hb⟩
def E3 (a b c : Int) (v : Value) (w : World) : Prop := ∃ g, v = .slice (some ⟨g, 0, none⟩) 3 3 ∧ El w (some ⟨g, 0, none⟩) 3 (tri a b c)
theorem E3.below {a b c v w w'} (h : E3 a b c v w) (hb : Below w.heap.size w w') : E3 a b c v w' := by
  obtain ⟨g, h1, h2⟩ := h
  exact ⟨g, h1, h2.below hb⟩
theorem pnE_af {k : Nat} {X : Nat → Nm} {z : Int} (h : pnE k X z = 0) : afB k X = true := by
  unfold pnE at h
  split at h
  · assumption
  · cases h
/-- A point that is told by copies, and the point itself, compare equal. -/
theorem p3_same {w : World} {a0 a1 a2 : Option Addr} {k0 k1 k2 : Nat} {X0 X1 X2 Y0 Y1 Y2 : Nat → Nm} {c0 c1 c2 : Nat} {p0 p1 p2 : Option Addr} {q0 q1 q2 : Nat} (r0 : Rl w a0 k0 X0) (r1 : Rl w a1 k1 X1) (r2 : Rl w a2 k2 X2) (s0 : ∀ j, j < k0 → Sn (X0 j) (Y0 j)) (s1 : ∀ j, j < k1 → Sn (X1 j) (Y1 j)) (s2 : ∀ j, j < k2 → Sn (X2 j) (Y2 j))
    (n0 : k0 ≤ 300 ∧ ∀ j, j < k0 → (X0 j).n ≤ 10 ∧ (X0 j).m ≤ 10) (n1 : k1 ≤ 300 ∧ ∀ j, j < k1 → (X1 j).n ≤ 10 ∧ (X1 j).m ≤ 10) (n2 : k2 ≤ 300 ∧ ∀ j, j < k2 → (X2 j).n ≤ 10 ∧ (X2 j).m ≤ 10) (hf : afB k0 X0 = true ∧ afB k1 X1 = true ∧ afB k2 X2 = true)
    (h : P3v k0 Y0 k1 Y1 k2 Y2 (.agg #[.slice p0 k0 q0, .slice p1 k1 q1, .slice p2 k2 q2]) w) :
    Calls Try.prog 21 #[.agg #[.slice p0 k0 q0, .slice p1 k1 q1, .slice p2 k2 q2], .agg #[.slice a0 k0 c0, .slice a1 k1 c1, .slice a2 k2 c2]] w fun e w' => e = .returned (.bool true) ∧ Below w.heap.size w w' := by
  obtain ⟨_, _, _, _, _, _, ee, z0, z1, z2⟩ := h
  cases ee
  obtain ⟨_, _, Z0, ez0, z0, zs0⟩ := z0
  cases ez0
  obtain ⟨_, _, Z1, ez1, z1, zs1⟩ := z1
  cases ez1
  obtain ⟨_, _, Z2, ez2, z2, zs2⟩ := z2
  cases ez2
  obtain ⟨p0, lp0, pa0, pb0⟩ := sames_of (K := 10) r0 z0 (fun j hj => (s0 j hj).trans (zs0 j hj)) hf.1 n0.2
  obtain ⟨p1, lp1, pa1, pb1⟩ := sames_of (K := 10) r1 z1 (fun j hj => (s1 j hj).trans (zs1 j hj)) hf.2.1 n1.2
  obtain ⟨p2, lp2, pa2, pb2⟩ := sames_of (K := 10) r2 z2 (fun j hj => (s2 j hj).trans (zs2 j hj)) hf.2.2 n2.2
  exact samePt_c pb0 pa0 lp0 (Nat.le_trans n0.1 (by decide)) pb1 pa1 lp1 (Nat.le_trans n1.1 (by decide)) pb2 pa2 lp2 (Nat.le_trans n2.1 (by decide)) (by decide) (by decide)
theorem Sn.refl (t : Nm) : Sn t t := ⟨rfl, rfl, rfl, rfl, rfl⟩
end Go.Proofs.Ytllpllebmknmpaa
namespace Go.Proofs.Ytllpllebmknmpaa
open Go.RowKit

/-- Nothing has turned but blocks that may, and new ones. -/
structure Kq (ok : Nat → Prop) (w w' : World) : Prop where
  os : w'.os = w.os
  tape : w'.tape = w.tape
  output : w'.output = w.output
  size : w.heap.size ≤ w'.heap.size
  block : ∀ k, k < w.heap.size → ¬ ok k → w'.heap[k]? = w.heap[k]?
theorem Kq.refl (ok : Nat → Prop) (w : World) : Kq ok w w := ⟨rfl, rfl, rfl, Nat.le_refl _, fun _ _ _ => rfl⟩
theorem Kq.set {ok : Nat → Prop} {a w : World} (h : Kq ok a w) {x : Addr} (hx : ok x.block) (u : Value) : Kq ok a (w.setCell x u) :=
  ⟨h.os, h.tape, h.output, by simpa [World.setCell] using h.size, fun k hk hn => (Below.heap_setCell _ _ _ _ (fun (e : k = x.block) => hn (by rw [e]; exact hx))).trans (h.block k hk hn)⟩
theorem Kq.below {ok : Nat → Prop} {a w w' : World} (h : Kq ok a w) (hb : Below w.heap.size w w') : Kq ok a w' :=
  ⟨hb.os.trans h.os, hb.tape.trans h.tape, hb.output.trans h.output, Nat.le_trans h.size hb.size, fun k hk hn => (hb.block k (Nat.lt_of_lt_of_le hk h.size)).trans (h.block k hk hn)⟩
/-- A row of numbers from number i on, each with a denominator whose first limb may be written. -/
structure PE (ok : Nat → Prop) (w : World) (g K i : Nat) : Prop where
  fz : ∀ o, w.frozen? ⟨g, o, none⟩ = false
  okb : ok g
  el : ∀ j, i ≤ j → j < K → ∃ s x n c b m d q, C3 w g (j * 3) (.bool s) (.slice x n c) (.slice (some ⟨b, 0, none⟩) m d) ∧ 0 < m ∧ ok b ∧ w.cell? ⟨b, 0, none⟩ = some (.int .u64 q) ∧ w.frozen? ⟨b, 0, none⟩ = false
theorem PE.mono {ok w g K i i'} (h : PE ok w g K i) (hi : i ≤ i') : PE ok w g K i' := ⟨h.fz, h.okb, fun j hj => h.el j (Nat.le_trans hi hj)⟩
theorem PE.below {ok w w' g K i} (h : PE ok w g K i) (hg : g < w.heap.size) (hb : Below w.heap.size w w') : PE ok w' g K i := by
  obtain ⟨_, hf⟩ := bcell hb
  refine ⟨fun o => (hf _ _ hg).trans (h.fz o), h.okb, fun j h1 h2 => ?_⟩
  obtain ⟨s, x, n, c, b, m, d, q, e1, e2, e3, e4, e5⟩ := h.el j h1 h2
  exact ⟨s, x, n, c, b, m, d, q, e1.below hb, e2, e3, kCb hb e4, (hf _ _ (World.block_lt_of_cell? w _ e4)).trans e5⟩
theorem cell_ne {w : World} {p a : Addr} {u v z : Value} (hp : w.cell? p = some u) (ha : w.cell? a = some v) (hne : u ≠ v) : (w.setCell p z).cell? a = some v := by
  have hpa : p ≠ a := fun e => hne (Option.some.inj (by rw [← hp, ← ha, e]))
  exact (World.cell?_setCell_other w p a z hpa).trans ha
/-- The first limb of a denominator is written. -/
theorem PE.den {ok w g K i b q} (h : PE ok w g K i) (hb : w.cell? ⟨b, 0, none⟩ = some (.int .u64 q)) : PE ok (w.setCell ⟨b, 0, none⟩ (.int .u64 5)) g K i := by
  refine ⟨fun o => kFs (h.fz o), h.okb, fun j h1 h2 => ?_⟩
  obtain ⟨s, x, n, c, b', m, d, q', ⟨x0, x1, x2⟩, e2, e3, e4, e5⟩ := h.el j h1 h2
  by_cases e : b' = b
  · subst e
    exact ⟨s, x, n, c, b', m, d, 5, ⟨cell_ne hb x0 (fun h => by cases h), cell_ne hb x1 (fun h => by cases h), cell_ne hb x2 (fun h => by cases h)⟩, e2, e3, kCe (kI0 e4), kFs e5⟩
  · exact ⟨s, x, n, c, b', m, d, q', ⟨cell_ne hb x0 (fun h => by cases h), cell_ne hb x1 (fun h => by cases h), cell_ne hb x2 (fun h => by cases h)⟩, e2, e3, kCs (fun h => e h.symm) e4, kFs e5⟩
/-- A cell of a row is written, of another one or ahead of number i. -/
theorem PE.set {ok w g K i g' o u v} (h : PE ok w g K i) (hv : w.cell? ⟨g', o, none⟩ = some v) (hn : ∀ z, v ≠ .int .u64 z) (hne : g' ≠ g ∨ o < i * 3) : PE ok (w.setCell ⟨g', o, none⟩ u) g K i := by
  refine ⟨fun o => kFs (h.fz o), h.okb, fun j h1 h2 => ?_⟩
  obtain ⟨s, x, n, c, b', m, d, q', ⟨x0, x1, x2⟩, e2, e3, e4, e5⟩ := h.el j h1 h2
  have hk : ∀ t u', w.cell? ⟨g, j * 3 + t, none⟩ = some u' → (w.setCell ⟨g', o, none⟩ u).cell? ⟨g, j * 3 + t, none⟩ = some u' := fun t u' hu => by
    rcases hne with h | h
    · exact kCs h hu
    · by_cases e : g' = g
      · subst e; exact kCo (by have : i * 3 ≤ j * 3 := Nat.mul_le_mul_right 3 h1; omega) hu
      · exact kCs e hu
  exact ⟨s, x, n, c, b', m, d, q', ⟨hk 0 _ x0, hk 1 _ x1, hk 2 _ x2⟩, e2, e3, cell_ne hv e4 (hn _), kFs e5⟩
theorem rf_den {t : Nm} (h : nfB t = true) : 0 < t.m := by
  unfold nfB rfB at h
  simp only [Bool.and_eq_true, decide_eq_true_eq] at h
  exact h.2.2.1
theorem Cp.pe {ok : Nat → Prop} {w base g k X Y} (h : Cp w base g k k X Y) (hf : afB k X = true) (hok : ∀ b, base ≤ b → b < w.heap.size → ok b) : PE ok w g k 0 := by
  refine ⟨h.row.fz, hok g h.ge h.row.z, fun j _ hj => ?_⟩
  obtain ⟨h1, hs, h2, h3, _⟩ := h.el j hj
  have hn := afr_all hf j (by omega) (by omega)
  rw [← hs.nfB] at hn
  have hm : 0 < (Y j).m := (rf_den hn)
  obtain ⟨b, e1, e2, ⟨q, e3⟩, e4⟩ := h3 hm
  rw [e1] at h1
  exact ⟨_, _, _, _, b, _, _, q, h1, hm, hok b e2 (World.block_lt_of_cell? w _ e3), e3, e4⟩
/-- A copy stays where its blocks do. -/
theorem Cp.keep {w w' base g k X Y} {w0 : World} {ao : Option Addr} (h : Cp w base g k k X Y) (hx : Rl w0 ao k X) (hb : ∀ b, base ≤ b → b < w.heap.size → w'.heap[b]? = w.heap[b]?) : Rl w' (some ⟨g, 0, none⟩) k Y := fun j hj => by
  obtain ⟨b, o, e, ⟨c0, c1, c2⟩, h1, h2⟩ := h.rl hx j hj
  cases e
  obtain ⟨_, _, _, hd, hn⟩ := h.el j hj
  have hg := hb g h.ge h.row.z
  have hrd : ∀ {x : Option Addr} {n : Nat} {f : Nat → Int}, Rd .u64 w x n f → Dw w base x n → Rd .u64 w' x n f := fun {x n f} hr hw i hi => by
    obtain ⟨b, o, e, hc⟩ := hr i hi
    obtain ⟨b', e', hge, _⟩ := hw (by omega)
    rw [e] at e'
    cases e'
    exact ⟨b, 0, e, (World.cell?_of_block (a := ⟨b, 0 + i, none⟩) (hb b hge (World.block_lt_of_cell? w _ hc))).trans hc⟩
  exact ⟨g, 0, rfl, ⟨(World.cell?_of_block (a := ⟨g, 0 + j * 3, none⟩) hg).trans c0, (World.cell?_of_block (a := ⟨g, 0 + j * 3 + 1, none⟩) hg).trans c1, (World.cell?_of_block (a := ⟨g, 0 + j * 3 + 2, none⟩) hg).trans c2⟩, ⟨hrd h1.rx hn, h1.lx, h1.cx, h1.nx, hrd h1.ry hd, h1.ly, h1.cy, h1.ny⟩, h2⟩
def sel4 {T : Type} (a b c d : T) (i : Nat) : T := if i = 0 then a else if i = 1 then b else if i = 2 then c else d
theorem lmin_zero {a b : Int} (ha : a = 0 ∨ a = 3 ∨ a = 7) (hb : b = 0 ∨ b = 3 ∨ b = 7) (h : lmin a b = 0) : a = 0 ∧ b = 0 := by
  rcases ha with rfl | rfl | rfl <;> rcases hb with rfl | rfl | rfl <;> revert h <;> decide
theorem Kq.blw {ok : Nat → Prop} {a w w' : World} (h : Kq ok w w') (hb : Below a.heap.size a w) (hn : ∀ k, k < a.heap.size → ¬ ok k) : Below a.heap.size a w' :=
  ⟨h.os.trans hb.os, h.tape.trans hb.tape, h.output.trans hb.output, Nat.le_trans hb.size h.size, fun k hk => (h.block k (Nat.lt_of_lt_of_le hk hb.size) (hn k hk)).trans (hb.block k hk)⟩
/-- What stands at the head of the outer loop. -/
structure KI (ok : Nat → Prop) (wG : World) (gl : Nat) (vs : List Value) (G KK : Nat → Nat) (wr : World) (i : Nat) : Prop where
  kq : Kq ok wG wr
  bl : Bk wr gl vs 30
  pe : ∀ i', i ≤ i' → i' < 4 → PE ok wr (G i') (KK i') 0
  lt : ∀ i', i' < 4 → G i' < wr.heap.size
/-- What stands at the head of the inner loop. -/
structure KJ (ok : Nat → Prop) (wG : World) (gl : Nat) (vs : List Value) (G KK : Nat → Nat) (i g K : Nat) (wr : World) (j : Nat) : Prop where
  kq : Kq ok wG wr
  bl : Bk wr gl vs 30
  cur : PE ok wr g K j
  pe : ∀ i', i + 1 ≤ i' → i' < 4 → PE ok wr (G i') (KK i') 0
  lt : ∀ i', i' < 4 → G i' < wr.heap.size
  glt : g < wr.heap.size
theorem KJ.below {ok wG gl vs G KK i g K wr wr' j} (h : KJ ok wG gl vs G KK i g K wr j) (hb : Below wr.heap.size wr wr') : KJ ok wG gl vs G KK i g K wr' j :=
  ⟨h.kq.below hb, h.bl.below hb, h.cur.below h.glt hb, fun i' h1 h2 => (h.pe i' h1 h2).below (h.lt i' h2) hb, fun i' hi => Nat.lt_of_lt_of_le (h.lt i' hi) hb.size, Nat.lt_of_lt_of_le h.glt hb.size⟩
theorem KJ.den {ok wG gl vs G KK i g K wr j b q} (h : KJ ok wG gl vs G KK i g K wr j) (hb : wr.cell? ⟨b, 0, none⟩ = some (.int .u64 q)) (hok : ok b) (hgl : b ≠ gl) : KJ ok wG gl vs G KK i g K (wr.setCell ⟨b, 0, none⟩ (.int .u64 5)) j :=
  ⟨h.kq.set hok _, h.bl.of (Below.heap_setCell _ _ _ _ (fun e => hgl e.symm)), h.cur.den hb, fun i' h1 h2 => (h.pe i' h1 h2).den hb, fun i' hi => by simpa [World.setCell] using h.lt i' hi, by simpa [World.setCell] using h.glt⟩
theorem KJ.set {ok wG gl vs G KK i g K wr j o u v} (h : KJ ok wG gl vs G KK i g K wr j) (hv : wr.cell? ⟨g, o, none⟩ = some v) (hn : ∀ z, v ≠ .int .u64 z) (ho : o < j * 3) (hok : ok g) (hgl : g ≠ gl) (hne : ∀ i', i + 1 ≤ i' → i' < 4 → g ≠ G i') : KJ ok wG gl vs G KK i g K (wr.setCell ⟨g, o, none⟩ u) j :=
  ⟨h.kq.set hok _, h.bl.of (Below.heap_setCell _ _ _ _ (fun e => hgl e.symm)), h.cur.set hv hn (.inr ho), fun i' h1 h2 => (h.pe i' h1 h2).set hv hn (.inl (hne i' h1 h2)), fun i' hi => by simpa [World.setCell] using h.lt i' hi, by simpa [World.setCell] using h.glt⟩
theorem KJ.up {ok wG gl vs G KK i g K wr j j'} (h : KJ ok wG gl vs G KK i g K wr j) (hj : j ≤ j') : KJ ok wG gl vs G KK i g K wr j' := ⟨h.kq, h.bl, h.cur.mono hj, h.pe, h.lt, h.glt⟩
set_option maxRecDepth 100000 in
set_option maxHeartbeats 16000000 in
theorem stackKeeps_x {a0 a1 a2 : Option Addr} {k0 c0 k1 c1 k2 c2 : Nat} {X0 X1 X2 : Nat → Nm} (w : World) (hp0 : Rr w a0 k0 X0 ∧ k0 ≤ c0 ∧ c0 ≤ 9223372036854775807) (hp1 : Rr w a1 k1 X1 ∧ k1 ≤ c1 ∧ c1 ≤ 9223372036854775807) (hp2 : Rr w a2 k2 X2 ∧ k2 ≤ c2 ∧ c2 ≤ 9223372036854775807) :
    Calls Try.prog 7 #[.agg #[.slice a0 k0 c0, .slice a1 k1 c1, .slice a2 k2 c2]] w fun e w' => e = .returned (.bool true) ∧ Below w.heap.size w w' := by
  have C0 := hid (fun W (hW : Below w.heap.size w W) => rLights_c (w := W) (cap := c0) 10 (hp0.1.below hW) (by omega))
  have C1 := hid (fun W (hW : Below w.heap.size w W) => rLights_c (w := W) (cap := c1) 10 (hp1.1.below hW) (by omega))
  have C2 := hid (fun W (hW : Below w.heap.size w W) => rLights_c (w := W) (cap := c2) 10 (hp2.1.below hW) (by omega))
  obtain ⟨q0, hq0⟩ : ∃ q, (decide (k0 ≤ 300) && nlg 10 X0 k0 0) = q := ⟨_, rfl⟩
  rw [hq0] at C0
  obtain ⟨q1, hq1⟩ : ∃ q, (decide (k1 ≤ 300) && nlg 10 X1 k1 0) = q := ⟨_, rfl⟩
  rw [hq1] at C1
  obtain ⟨q2, hq2⟩ : ∃ q, (decide (k2 ≤ 300) && nlg 10 X2 k2 0) = q := ⟨_, rfl⟩
  rw [hq2] at C2
  have HQ0 := hid hq0; have HQ1 := hid hq1; have HQ2 := hid hq2
  have HR0 := hid hp0.1; have HR1 := hid hp1.1; have HR2 := hid hp2.1
  clear hp0 hp1 hp2 hq0 hq1 hq2
  have hb := below_alloc (Below.refl w.heap.size w) (.cells #[.slice a0 k0 c0, .slice a1 k1 c1, .slice a2 k2 c2] 32)
  have H1 := hid (show Bk (w.alloc (.cells #[.slice a0 k0 c0, .slice a1 k1 c1, .slice a2 k2 c2] 32)) w.heap.size [.slice a0 k0 c0, .slice a1 k1 c1, .slice a2 k2 c2] 32 from bk_new w [.slice a0 k0 c0, .slice a1 k1 c1, .slice a2 k2 c2] 32)
  have HB := hid hb
  clear hb
  go_enter Try.func7, Try.ntmps7
  go_wp2_with fail
  generalize w.alloc (.cells #[.slice a0 k0 c0, .slice a1 k1 c1, .slice a2 k2 c2] 32) = w1 at *
  refine (awake17_c _).mono ?_
  rintro e w2 ⟨rfl, hb2⟩
  replace HB := hid (HB.out.trans (hb2.mono HB.out.size)); replace H1 := hid (H1.out.below hb2)
  clear hb2
  have r0 := H1.out.cell (j := 0) rfl
  have r1 := H1.out.cell (j := 1) rfl
  by_cases hr : (64 : Int) < k0 ∨ (64 : Int) < k1
  · go_wp2_with fail
    refine (snewE_c (n := k0) (k := k1) (by omega)).mono ?_
    rintro e w3 ⟨rfl, rfl⟩
    go_wp2
    go_ret
    exact ⟨rfl, HB.out⟩
  go_wp2_with fail
  refine (snew_c (n := k0) (k := k1) (by omega) (by omega) (by omega) (by omega)).mono ?_
  rintro e w3 ⟨B, rfl, hb3, hs3⟩
  have HS := hid hs3.out.2
  replace HB := hid (HB.out.trans (hb3.mono HB.out.size)); replace H1 := hid (H1.out.below hb3)
  clear hb3 hs3 hr r0 r1
  have r0 := H1.out.cell (j := 0) rfl
  go_wp2_with fail
  refine (C0.out _ HB.out).mono ?_
  rintro e w4 ⟨rfl, hb4⟩
  replace HB := hid (HB.out.trans (hb4.mono HB.out.size)); replace H1 := hid (H1.out.below hb4); replace HS := hid (HS.out.below hb4)
  clear hb4 r0
  cases q0
  · go_wp2
    go_ret
    exact ⟨rfl, HB.out⟩
  have r1 := H1.out.cell (j := 1) rfl
  go_wp2_with fail
  refine (C1.out _ HB.out).mono ?_
  rintro e w5 ⟨rfl, hb5⟩
  replace HB := hid (HB.out.trans (hb5.mono HB.out.size)); replace H1 := hid (H1.out.below hb5); replace HS := hid (HS.out.below hb5)
  clear hb5 r1
  cases q1
  · go_wp2
    go_ret
    exact ⟨rfl, HB.out⟩
  have r2 := H1.out.cell (j := 2) rfl
  go_wp2_with fail
  refine (C2.out _ HB.out).mono ?_
  rintro e w6 ⟨rfl, hb6⟩
  replace HB := hid (HB.out.trans (hb6.mono HB.out.size)); replace H1 := hid (H1.out.below hb6); replace HS := hid (HS.out.below hb6)
  clear hb6 r2
  cases q2
  · go_wp2
    go_ret
    exact ⟨rfl, HB.out⟩
  have N0 := hid (nlg_lim HQ0.out)
  have N1 := hid (nlg_lim HQ1.out)
  have N2 := hid (nlg_lim HQ2.out)
  have R0 := hid (HR0.out.rl (nlgB HQ0.out) (by decide : 10 ≤ 65536))
  have R1 := hid (HR1.out.rl (nlgB HQ1.out) (by decide : 10 ≤ 65536))
  have R2 := hid (HR2.out.rl (nlgB HQ2.out) (by decide : 10 ≤ 65536))
  clear HQ0 HQ1 HQ2 HR0 HR1 HR2 C0 C1 C2
  have r0 := H1.out.cell (j := 0) rfl
  have r2 := H1.out.cell (j := 2) rfl
  have hn := below_alloc (Below.refl w6.heap.size w6) (.cells #[.slice a0 k0 c0, .slice a2 k2 c2] 30)
  have HLL := hid (ll_two (w := w6) (t := 30) (c0 := c0) (c1 := c2) (R0.out.below HB.out) (R2.out.below HB.out) ⟨Nat.le_trans N0.out.1 (by decide), (fun j hj => ⟨Nat.le_trans (N0.out.2 j hj).1 (by decide), Nat.le_trans (N0.out.2 j hj).2 (by decide)⟩)⟩ ⟨Nat.le_trans N2.out.1 (by decide), (fun j hj => ⟨Nat.le_trans (N2.out.2 j hj).1 (by decide), Nat.le_trans (N2.out.2 j hj).2 (by decide)⟩)⟩)
  replace HB := hid (HB.out.trans (hn.mono HB.out.size)); replace H1 := hid (H1.out.below hn); replace HS := hid (HS.out.below hn)
  clear hn
  go_wp2_with fail
  generalize w6.alloc (.cells #[.slice a0 k0 c0, .slice a2 k2 c2] 30) = w7 at *
  clear r0 r2
  refine (lists_c HLL.out (by decide)).mono ?_
  rintro e w8 ⟨rfl, hb8⟩
  replace HB := hid (HB.out.trans (hb8.mono HB.out.size)); replace H1 := hid (H1.out.below hb8); replace HS := hid (HS.out.below hb8)
  clear hb8 HLL
  obtain ⟨e1, he1⟩ : ∃ e, lstF k0 (pick2 k0 k2) (pick2 X0 X2) 2 = e := ⟨_, rfl⟩
  rw [he1]
  by_cases h1 : e1 = 0
  case neg =>
    have i1 : (e1 != 0) = true := by simpa using h1
    go_wp2
    go_ret
    exact ⟨rfl, HB.out⟩
  subst h1
  have HE1 := hid (lmin_zero (pnE_in _ _ _) (pnE_in _ _ _) (show lmin (pnE k0 X0 k0) (pnE k2 X2 k0) = 0 from lstF_two.symm.trans he1))
  clear he1
  have r1 := H1.out.cell (j := 1) rfl
  have hn := below_alloc (Below.refl w8.heap.size w8) (.cells #[.slice a1 k1 c1] 30)
  have HLL := hid (ll_one (w := w8) (t := 30) (c0 := c1) (R1.out.below HB.out) ⟨Nat.le_trans N1.out.1 (by decide), (fun j hj => ⟨Nat.le_trans (N1.out.2 j hj).1 (by decide), Nat.le_trans (N1.out.2 j hj).2 (by decide)⟩)⟩)
  replace HB := hid (HB.out.trans (hn.mono HB.out.size)); replace H1 := hid (H1.out.below hn); replace HS := hid (HS.out.below hn)
  clear hn
  go_wp2_with fail
  generalize w8.alloc (.cells #[.slice a1 k1 c1] 30) = w9 at *
  clear r1
  refine (lists_c HLL.out (by decide)).mono ?_
  rintro e w10 ⟨rfl, hb10⟩
  replace HB := hid (HB.out.trans (hb10.mono HB.out.size)); replace H1 := hid (H1.out.below hb10); replace HS := hid (HS.out.below hb10)
  clear hb10 HLL
  obtain ⟨e2, he2⟩ : ∃ e, lstF k1 (pick1 k1) (pick1 X1) 1 = e := ⟨_, rfl⟩
  rw [he2]
  by_cases h2 : e2 = 0
  case neg =>
    have i1 : (e2 != 0) = true := by simpa using h2
    go_wp2
    go_ret
    exact ⟨rfl, HB.out⟩
  subst h2
  have HE2 := hid (show pnE k1 X1 k1 = 0 from lstF_one.symm.trans he2)
  clear he2
  have r0 := H1.out.cell (j := 0) rfl
  have r1 := H1.out.cell (j := 1) rfl
  have r2 := H1.out.cell (j := 2) rfl
  go_wp2_with fail
  refine (twPoint_c (R0.out.below HB.out) (R1.out.below HB.out) (R2.out.below HB.out) (Nat.le_trans N0.out.1 (by decide)) (Nat.le_trans N1.out.1 (by decide)) (Nat.le_trans N2.out.1 (by decide)) (fun j hj => ⟨Nat.le_trans (N0.out.2 j hj).1 (by decide), Nat.le_trans (N0.out.2 j hj).2 (by decide)⟩) (fun j hj => ⟨Nat.le_trans (N1.out.2 j hj).1 (by decide), Nat.le_trans (N1.out.2 j hj).2 (by decide)⟩) (fun j hj => ⟨Nat.le_trans (N2.out.2 j hj).1 (by decide), Nat.le_trans (N2.out.2 j hj).2 (by decide)⟩)).mono ?_
  rintro e w11 ⟨u0, v0, Y0, u1, v1, Y1, u2, v2, Y2, rfl, hb11, _, HT⟩
  replace HB := hid (HB.out.trans (hb11.mono HB.out.size)); replace H1 := hid (H1.out.below hb11); replace HS := hid (HS.out.below hb11)
  clear hb11 r0 r1 r2
  have hn := below_alloc (Below.refl w11.heap.size w11) (.cells #[.slice u0 k0 v0, .slice u1 k1 v1, .slice u2 k2 v2] 32)
  have T0 := hid (⟨HT.out.1.1.below hn, HT.out.1.2⟩ : _ ∧ _)
  have T1 := hid (⟨HT.out.2.1.1.below hn, HT.out.2.1.2⟩ : _ ∧ _)
  have T2 := hid (⟨HT.out.2.2.1.below hn, HT.out.2.2.2⟩ : _ ∧ _)
  obtain ⟨b5, hb5⟩ : ∃ z, w11.heap.size = z := ⟨_, rfl⟩
  have H5 := hid (show Bk (w11.alloc (.cells #[.slice u0 k0 v0, .slice u1 k1 v1, .slice u2 k2 v2] 32)) b5 [.slice u0 k0 v0, .slice u1 k1 v1, .slice u2 k2 v2] 32 from hb5 ▸ bk_new w11 [.slice u0 k0 v0, .slice u1 k1 v1, .slice u2 k2 v2] 32)
  replace HB := hid (HB.out.trans (hn.mono HB.out.size)); replace H1 := hid (H1.out.below hn); replace HS := hid (HS.out.below hn)
  clear hn HT
  have hp0 : ptE k0 k1 k0 Y0 k1 Y1 k2 Y2 = 0 := by
    unfold ptE
    rw [pnE_sn T0.out.2, pnE_sn T1.out.2, pnE_sn T2.out.2, HE1.out.1, HE2.out, HE1.out.2]; rfl
  have HP0 := hid hp0
  clear hp0
  have hA : (w11.alloc (.cells #[.slice u0 k0 v0, .slice u1 k1 v1, .slice u2 k2 v2] 32)).heap.size = b5 + 1 := by simp [hb5]
  have r0 := H5.out.cell (j := 0) rfl
  have r1 := H5.out.cell (j := 1) rfl
  have r2 := H5.out.cell (j := 2) rfl
  go_wp2_with fail
  (try simp only [hb5])
  generalize w11.alloc (.cells #[.slice u0 k0 v0, .slice u1 k1 v1, .slice u2 k2 v2] 32) = wA at *
  clear hb5
  have H1a := hid H1.out; have HBa := hid HB.out; have T0a := hid T0.out.1; have T1a := hid T1.out.1; have T2a := hid T2.out.1
  have BA := hid (Below.refl wA.heap.size wA)
  refine (sdualA_c HS.out T0.out.1 T1.out.1 T2.out.1 (Nat.le_trans N0.out.1 (by decide)) (Nat.le_trans N1.out.1 (by decide)) (Nat.le_trans N2.out.1 (by decide))).mono ?_
  rintro e wB ⟨hbd, ⟨h0, _⟩ | ⟨_, g0, Z0, g1, Z1, g2, Z2, rfl, cd0, cd1, cd2, hap1, hap2⟩⟩
  · exact absurd HP0.out h0
  have Dg0 := hid cd0; have Dg1 := hid cd1; have Dg2 := hid cd2
  have APg := hid (⟨hap1, hap2⟩ : _ ∧ _)
  replace HB := hid (HB.out.trans (hbd.mono HB.out.size)); replace H1 := hid (H1.out.below hbd); replace HS := hid (HS.out.below hbd); replace T0 := hid (⟨T0.out.1.below hbd, T0.out.2⟩ : _ ∧ _); replace T1 := hid (⟨T1.out.1.below hbd, T1.out.2⟩ : _ ∧ _); replace T2 := hid (⟨T2.out.1.below hbd, T2.out.2⟩ : _ ∧ _)
  have hsg := hbd.size
  replace BA := hid (BA.out.trans (hbd.mono BA.out.size)); replace H5 := hid H5.out; have H5b := hid (H5.out.below hbd)
  clear hbd cd0 cd1 cd2 hap1 hap2 r0 r1 r2
  have hn := below_alloc (Below.refl wB.heap.size wB) (.cells #[.slice (some ⟨g0, 0, none⟩) k0 k0, .slice (some ⟨g1, 0, none⟩) k1 k1, .slice (some ⟨g2, 0, none⟩) k2 k2] 32)
  obtain ⟨b6, hb6⟩ : ∃ z, wB.heap.size = z := ⟨_, rfl⟩
  have H6 := hid (show Bk (wB.alloc (.cells #[.slice (some ⟨g0, 0, none⟩) k0 k0, .slice (some ⟨g1, 0, none⟩) k1 k1, .slice (some ⟨g2, 0, none⟩) k2 k2] 32)) b6 [.slice (some ⟨g0, 0, none⟩) k0 k0, .slice (some ⟨g1, 0, none⟩) k1 k1, .slice (some ⟨g2, 0, none⟩) k2 k2] 32 from hb6 ▸ bk_new wB [.slice (some ⟨g0, 0, none⟩) k0 k0, .slice (some ⟨g1, 0, none⟩) k1 k1, .slice (some ⟨g2, 0, none⟩) k2 k2] 32)
  replace HB := hid (HB.out.trans (hn.mono HB.out.size)); replace H1 := hid (H1.out.below hn); replace HS := hid (HS.out.below hn); replace T0 := hid (⟨T0.out.1.below hn, T0.out.2⟩ : _ ∧ _); replace T1 := hid (⟨T1.out.1.below hn, T1.out.2⟩ : _ ∧ _); replace T2 := hid (⟨T2.out.1.below hn, T2.out.2⟩ : _ ∧ _); replace BA := hid (BA.out.trans (hn.mono BA.out.size)); replace H5b := hid (H5b.out.below hn)
  have hA2 : (wB.alloc (.cells #[.slice (some ⟨g0, 0, none⟩) k0 k0, .slice (some ⟨g1, 0, none⟩) k1 k1, .slice (some ⟨g2, 0, none⟩) k2 k2] 32)).heap.size = b6 + 1 := by simp [hb6]
  have r0 := H5b.out.cell (j := 0) rfl
  have r1 := H5b.out.cell (j := 1) rfl
  have r2 := H5b.out.cell (j := 2) rfl
  go_wp2_with fail
  (try simp only [hb6])
  generalize wB.alloc (.cells #[.slice (some ⟨g0, 0, none⟩) k0 k0, .slice (some ⟨g1, 0, none⟩) k1 k1, .slice (some ⟨g2, 0, none⟩) k2 k2] 32) = wC at *
  have BC := hid (Below.refl wC.heap.size wC)
  have BBC := hid hn
  clear hn
  refine (sdualA_c HS.out T0.out.1 T1.out.1 T2.out.1 (Nat.le_trans N0.out.1 (by decide)) (Nat.le_trans N1.out.1 (by decide)) (Nat.le_trans N2.out.1 (by decide))).mono ?_
  rintro e wD ⟨hbd, ⟨h0, _⟩ | ⟨_, h0, V0, h1, V1, h2, V2, rfl, cd0, cd1, cd2, hap1, hap2⟩⟩
  · exact absurd HP0.out h0
  have Dh0 := hid cd0; have Dh1 := hid cd1; have Dh2 := hid cd2
  have APh := hid (⟨hap1, hap2⟩ : _ ∧ _)
  replace HB := hid (HB.out.trans (hbd.mono HB.out.size)); replace H1 := hid (H1.out.below hbd); replace HS := hid (HS.out.below hbd); replace T0 := hid (⟨T0.out.1.below hbd, T0.out.2⟩ : _ ∧ _); replace T1 := hid (⟨T1.out.1.below hbd, T1.out.2⟩ : _ ∧ _); replace T2 := hid (⟨T2.out.1.below hbd, T2.out.2⟩ : _ ∧ _)
  have hsh := hbd.size
  replace BA := hid (BA.out.trans (hbd.mono BA.out.size)); replace BC := hid (BC.out.trans (hbd.mono BC.out.size)); replace H5b := hid (H5b.out.below hbd); replace H6 := hid (H6.out.below hbd)
  clear hbd cd0 cd1 cd2 hap1 hap2 r0 r1 r2
  have hn := below_alloc (Below.refl wD.heap.size wD) (.cells #[.slice (some ⟨h0, 0, none⟩) k0 k0, .slice (some ⟨h1, 0, none⟩) k1 k1, .slice (some ⟨h2, 0, none⟩) k2 k2] 32)
  obtain ⟨b8, hb8⟩ : ∃ z, wD.heap.size = z := ⟨_, rfl⟩
  have H8 := hid (show Bk (wD.alloc (.cells #[.slice (some ⟨h0, 0, none⟩) k0 k0, .slice (some ⟨h1, 0, none⟩) k1 k1, .slice (some ⟨h2, 0, none⟩) k2 k2] 32)) b8 [.slice (some ⟨h0, 0, none⟩) k0 k0, .slice (some ⟨h1, 0, none⟩) k1 k1, .slice (some ⟨h2, 0, none⟩) k2 k2] 32 from hb8 ▸ bk_new wD [.slice (some ⟨h0, 0, none⟩) k0 k0, .slice (some ⟨h1, 0, none⟩) k1 k1, .slice (some ⟨h2, 0, none⟩) k2 k2] 32)
  replace HB := hid (HB.out.trans (hn.mono HB.out.size)); replace H1 := hid (H1.out.below hn); replace HS := hid (HS.out.below hn); replace T0 := hid (⟨T0.out.1.below hn, T0.out.2⟩ : _ ∧ _); replace T1 := hid (⟨T1.out.1.below hn, T1.out.2⟩ : _ ∧ _); replace T2 := hid (⟨T2.out.1.below hn, T2.out.2⟩ : _ ∧ _); replace BA := hid (BA.out.trans (hn.mono BA.out.size)); replace BC := hid (BC.out.trans (hn.mono BC.out.size)); replace H5b := hid (H5b.out.below hn); replace H6 := hid (H6.out.below hn)
  have hX1 : (wD.alloc (.cells #[.slice (some ⟨h0, 0, none⟩) k0 k0, .slice (some ⟨h1, 0, none⟩) k1 k1, .slice (some ⟨h2, 0, none⟩) k2 k2] 32)).heap.size = b8 + 1 := by simp [hb8]
  have r0 := H5b.out.cell (j := 0) rfl
  go_wp2_with fail
  (try simp only [hb8])
  generalize wD.alloc (.cells #[.slice (some ⟨h0, 0, none⟩) k0 k0, .slice (some ⟨h1, 0, none⟩) k1 k1, .slice (some ⟨h2, 0, none⟩) k2 k2] 32) = wE at *
  have BDE := hid hn
  clear hn
  refine (sprimal_c HS.out T0.out.1 (Nat.le_trans N0.out.1 (by decide))).mono ?_
  rintro e wF ⟨hbF, ⟨h0, _⟩ | ⟨_, gx, VX, rfl, cx⟩⟩
  · exact absurd (by rw [pnE_sn T0.out.2]; exact HE1.out.1) h0
  have DX := hid cx; have BEF := hid hbF
  replace HB := hid (HB.out.trans (hbF.mono HB.out.size)); replace H1 := hid (H1.out.below hbF); replace HS := hid (HS.out.below hbF); replace T0 := hid (⟨T0.out.1.below hbF, T0.out.2⟩ : _ ∧ _); replace T1 := hid (⟨T1.out.1.below hbF, T1.out.2⟩ : _ ∧ _); replace T2 := hid (⟨T2.out.1.below hbF, T2.out.2⟩ : _ ∧ _); replace BA := hid (BA.out.trans (hbF.mono BA.out.size)); replace BC := hid (BC.out.trans (hbF.mono BC.out.size)); replace H5b := hid (H5b.out.below hbF); replace H6 := hid (H6.out.below hbF)
  clear hbF cx r0
  go_upto_region 12 with fail
  have r0 := H6.out.cell (j := 0) rfl
  have r1 := H6.out.cell (j := 1) rfl
  have r2 := H6.out.cell (j := 2) rfl
  have F0 := hid (pnE_af (z := k0) (by rw [pnE_sn T0.out.2]; exact HE1.out.1) : afB k0 Y0 = true)
  have F1 := hid (pnE_af (z := k1) (by rw [pnE_sn T1.out.2]; exact HE2.out) : afB k1 Y1 = true)
  have F2 := hid (pnE_af (z := k0) (by rw [pnE_sn T2.out.2]; exact HE1.out.2) : afB k2 Y2 = true)
  obtain ⟨ok, hok⟩ : ∃ ok : Nat → Prop, ok = (fun blk => (wA.heap.size ≤ blk ∧ blk < wC.heap.size) ∨ wE.heap.size ≤ blk) := ⟨_, rfl⟩
  have hEF := BEF.out.size
  have hCF := BC.out.size
  have hBC : Below wB.heap.size wB wC := by have h := BBC.out; first | exact h | (rw [← hb6] at h; exact h) | (rw [hb6]; exact h)
  have hDE : Below wD.heap.size wD wE := by have h := BDE.out; first | exact h | (rw [← hb8] at h; exact h) | (rw [hb8]; exact h)
  have hCD : wC.heap.size ≤ wD.heap.size := by first | exact hsh | omega
  have hbs : wB.heap.size ≤ wC.heap.size := hBC.size
  have hds : wD.heap.size ≤ wE.heap.size := hDE.size
  have pe0 : PE ok wF g0 k0 0 := ((Dg0.out.pe F0.out (fun b h1 h2 => by rw [hok]; exact .inl ⟨h1, by omega⟩)).below Dg0.out.row.z hBC).below (Nat.lt_of_lt_of_le Dg0.out.row.z hbs) BC.out
  have lg0 : g0 < wC.heap.size := Nat.lt_of_lt_of_le Dg0.out.row.z hbs
  have pe1 : PE ok wF g1 k1 0 := ((Dg1.out.pe F1.out (fun b h1 h2 => by rw [hok]; exact .inl ⟨h1, by omega⟩)).below Dg1.out.row.z hBC).below (Nat.lt_of_lt_of_le Dg1.out.row.z hbs) BC.out
  have lg1 : g1 < wC.heap.size := Nat.lt_of_lt_of_le Dg1.out.row.z hbs
  have pe2 : PE ok wF g2 k2 0 := ((Dg2.out.pe F2.out (fun b h1 h2 => by rw [hok]; exact .inl ⟨h1, by omega⟩)).below Dg2.out.row.z hBC).below (Nat.lt_of_lt_of_le Dg2.out.row.z hbs) BC.out
  have lg2 : g2 < wC.heap.size := Nat.lt_of_lt_of_le Dg2.out.row.z hbs
  have pex : PE ok wF gx k0 0 := DX.out.pe F0.out (fun b h1 _ => by rw [hok]; exact .inr h1)
  have lgx : gx < wF.heap.size := DX.out.row.z
  have gex : wE.heap.size ≤ gx := DX.out.ge
  obtain ⟨ap1, ap2⟩ := APg.out
  obtain ⟨gl, hgl⟩ : ∃ z, wF.heap.size = z := ⟨_, rfl⟩
  have GD : Hid (∀ i i', i < i' → i' < 4 → (sel4 g0 g1 g2 gx) i ≠ (sel4 g0 g1 g2 gx) i') := fun i i' h1 h2 => by
    rcases (show i' = 1 ∨ i' = 2 ∨ i' = 3 by omega) with rfl | rfl | rfl
    · obtain rfl : i = 0 := by omega
      show g0 ≠ g1; omega
    · rcases (show i = 0 ∨ i = 1 by omega) with rfl | rfl
      · show g0 ≠ g2; omega
      · show g1 ≠ g2; omega
    · rcases (show i = 0 ∨ i = 1 ∨ i = 2 by omega) with rfl | rfl | rfl
      · show g0 ≠ gx; omega
      · show g1 ≠ gx; omega
      · show g2 ≠ gx; omega
  have GL : Hid (∀ i, i < 4 → (sel4 g0 g1 g2 gx) i < gl) := fun i h => by
    rcases (show i = 0 ∨ i = 1 ∨ i = 2 ∨ i = 3 by omega) with rfl | rfl | rfl | rfl
    · show g0 < gl; omega
    · show g1 < gl; omega
    · show g2 < gl; omega
    · show gx < gl; omega
  have KL : Hid (∀ i, i < 4 → (sel4 k0 k1 k2 k0) i ≤ 300) := fun i h => by
    rcases (show i = 0 ∨ i = 1 ∨ i = 2 ∨ i = 3 by omega) with rfl | rfl | rfl | rfl
    · exact N0.out.1
    · exact N1.out.1
    · exact N2.out.1
    · exact N0.out.1
  have GOK : Hid (∀ i, i < 4 → ok ((sel4 g0 g1 g2 gx) i)) := fun i h => by
    rcases (show i = 0 ∨ i = 1 ∨ i = 2 ∨ i = 3 by omega) with rfl | rfl | rfl | rfl
    · exact pe0.okb
    · exact pe1.okb
    · exact pe2.okb
    · exact pex.okb
  have hn := below_alloc (Below.refl wF.heap.size wF) (.cells #[.slice (some ⟨g0, 0, none⟩) k0 k0, .slice (some ⟨g1, 0, none⟩) k1 k1, .slice (some ⟨g2, 0, none⟩) k2 k2, .slice (some ⟨gx, 0, none⟩) k0 k0] 30)
  have VC : Hid (∀ i, i < 4 → ([.slice (some ⟨g0, 0, none⟩) k0 k0, .slice (some ⟨g1, 0, none⟩) k1 k1, .slice (some ⟨g2, 0, none⟩) k2 k2, .slice (some ⟨gx, 0, none⟩) k0 k0] : List Value)[i]? = some (.slice (some ⟨(sel4 g0 g1 g2 gx) i, 0, none⟩) ((sel4 k0 k1 k2 k0) i) ((sel4 k0 k1 k2 k0) i))) := fun i h => by
    rcases (show i = 0 ∨ i = 1 ∨ i = 2 ∨ i = 3 by omega) with rfl | rfl | rfl | rfl <;> rfl
  have KI0 : Hid (KI ok (wF.alloc (.cells #[.slice (some ⟨g0, 0, none⟩) k0 k0, .slice (some ⟨g1, 0, none⟩) k1 k1, .slice (some ⟨g2, 0, none⟩) k2 k2, .slice (some ⟨gx, 0, none⟩) k0 k0] 30)) gl [.slice (some ⟨g0, 0, none⟩) k0 k0, .slice (some ⟨g1, 0, none⟩) k1 k1, .slice (some ⟨g2, 0, none⟩) k2 k2, .slice (some ⟨gx, 0, none⟩) k0 k0] (sel4 g0 g1 g2 gx) (sel4 k0 k1 k2 k0) (wF.alloc (.cells #[.slice (some ⟨g0, 0, none⟩) k0 k0, .slice (some ⟨g1, 0, none⟩) k1 k1, .slice (some ⟨g2, 0, none⟩) k2 k2, .slice (some ⟨gx, 0, none⟩) k0 k0] 30)) 0) := ⟨Kq.refl _ _, hgl ▸ bk_new wF [.slice (some ⟨g0, 0, none⟩) k0 k0, .slice (some ⟨g1, 0, none⟩) k1 k1, .slice (some ⟨g2, 0, none⟩) k2 k2, .slice (some ⟨gx, 0, none⟩) k0 k0] 30, fun i' _ h => by
    rcases (show i' = 0 ∨ i' = 1 ∨ i' = 2 ∨ i' = 3 by omega) with rfl | rfl | rfl | rfl
    · exact pe0.below (by omega) hn
    · exact pe1.below (by omega) hn
    · exact pe2.below (by omega) hn
    · exact pex.below lgx hn, fun i' h => by have := GL.out i' h; simp; omega⟩
  replace BA := hid (BA.out.trans (hn.mono BA.out.size)); have BD := hid ((hDE.trans (BEF.out.mono hds)).trans (hn.mono (Nat.le_trans hds hEF))); have BE := hid (BEF.out.trans (hn.mono hEF))
  have HOK := hid hok
  clear pe0 pe1 pe2 pex hn
  go_wp2_with fail
  (try simp only [hgl])
  generalize wF.alloc (.cells #[.slice (some ⟨g0, 0, none⟩) k0 k0, .slice (some ⟨g1, 0, none⟩) k1 k1, .slice (some ⟨g2, 0, none⟩) k2 k2, .slice (some ⟨gx, 0, none⟩) k0 k0] 30) = wG at *
  clear r0 r1 r2 hgl
  have HF := hid (⟨pnE_af HE1.out.1, pnE_af HE2.out, pnE_af HE1.out.2⟩ : afB k0 X0 = true ∧ afB k1 X1 = true ∧ afB k2 X2 = true)
  generalize hGG : (sel4 g0 g1 g2 gx) = GG at *
  generalize hKK : (sel4 k0 k1 k2 k0) = KK at *
  go_loopw [109] (fun t wr => ∃ (i : Nat), i ≤ 4 ∧ t = .int .i64 i ∧ Hid (KI ok wG gl [.slice (some ⟨g0, 0, none⟩) k0 k0, .slice (some ⟨g1, 0, none⟩) k1 k1, .slice (some ⟨g2, 0, none⟩) k2 k2, .slice (some ⟨gx, 0, none⟩) k0 k0] GG KK wr i)) (fun t _ => 4 - (intOf t).toNat)
  case atStart => exact ⟨0, by omega, rfl, KI0⟩
  case round =>
    obtain ⟨i, hi, rfl, HI⟩ := hrel
    by_cases hlt : i < 4
    · obtain ⟨g, hg⟩ : ∃ g, GG i = g := ⟨_, rfl⟩
      obtain ⟨K, hK⟩ : ∃ K, KK i = K := ⟨_, rfl⟩
      have xc : wr.cell? ⟨gl, i, none⟩ = some (.slice (some ⟨g, 0, none⟩) K K) := by rw [← hg, ← hK]; exact HI.out.bl.cell (VC.out i hlt)
      have i1 : ((i : Nat) : Int) < 4 := by omega
      have hK300 : K ≤ 300 := by rw [← hK]; exact KL.out i hlt
      have hgok : ok g := by rw [← hg]; exact GOK.out i hlt
      have hggl : g ≠ gl := by have := GL.out i hlt; omega
      have HNE : Hid (∀ i', i + 1 ≤ i' → i' < 4 → g ≠ GG i') := fun i' h1 h2 => by rw [← hg]; exact GD.out i i' (by omega) h2
      have HJ0 : Hid (KJ ok wG gl [.slice (some ⟨g0, 0, none⟩) k0 k0, .slice (some ⟨g1, 0, none⟩) k1 k1, .slice (some ⟨g2, 0, none⟩) k2 k2, .slice (some ⟨gx, 0, none⟩) k0 k0] GG KK i g K wr 0) := ⟨HI.out.kq, HI.out.bl, by rw [← hg, ← hK]; exact HI.out.pe i (Nat.le_refl _) hlt, fun i' h1 h2 => HI.out.pe i' (by omega) h2, HI.out.lt, by rw [← hg]; exact HI.out.lt i hlt⟩
      go_wp2_with fail
      clear xc
      go_loopw [115] (fun t wq => ∃ (j : Nat), j ≤ K ∧ t = .int .i64 j ∧ Hid (KJ ok wG gl [.slice (some ⟨g0, 0, none⟩) k0 k0, .slice (some ⟨g1, 0, none⟩) k1 k1, .slice (some ⟨g2, 0, none⟩) k2 k2, .slice (some ⟨gx, 0, none⟩) k0 k0] GG KK i g K wq j)) (fun t _ => K - (intOf t).toNat)
      case atStart => exact ⟨0, by omega, rfl, HJ0⟩
      case round =>
        clear HJ0 HI
        obtain ⟨j, hj, rfl, HJ⟩ := hrel
        by_cases hjlt : j < K
        · obtain ⟨s, x, n, c, b, m, d, q, ⟨x0, x1, x2⟩, hm, hob, hq, hfq⟩ := HJ.out.cur.el j (Nat.le_refl _) hjlt
          have j1 : ((j : Nat) : Int) < ((K : Nat) : Int) := by omega
          have m0 : (0 : Int) < ((m : Nat) : Int) := by omega
          have hbgl : b ≠ gl := fun e => by
            subst e
            have h4 := HJ.out.bl.cell (VC.out 0 (by decide))
            rw [hq] at h4; cases h4
          have HJ1 := hid (HJ.out.den hq hob hbgl)
          have y0 : (wr.setCell ⟨b, 0, none⟩ (.int .u64 5)).cell? ⟨g, j * 3, none⟩ = some (.bool s) := cell_ne hq x0 (fun h => by cases h)
          have y1 : (wr.setCell ⟨b, 0, none⟩ (.int .u64 5)).cell? ⟨g, j * 3 + 1, none⟩ = some (.slice x n c) := cell_ne hq x1 (fun h => by cases h)
          have y2 : (wr.setCell ⟨b, 0, none⟩ (.int .u64 5)).cell? ⟨g, j * 3 + 2, none⟩ = some (.slice (some ⟨b, 0, none⟩) m d) := cell_ne hq x2 (fun h => by cases h)
          go_wp2_with fail
          clear x0 x1 x2 hq hfq HJ
          generalize wr.setCell ⟨b, 0, none⟩ (.int .u64 5) = w5 at *
          refine (docOfQ_c (by omega) (by omega)).mono ?_
          rintro e w6 ⟨s4, x4, n4, c4, f4, y4, m4, d4, g4, rfl, hb6', _⟩
          have HJ2 := hid ((HJ1.out.below hb6').up (Nat.le_succ j))
          replace y0 := kCb hb6' y0; replace y1 := kCb hb6' y1; replace y2 := kCb hb6' y2
          have hfz := HJ2.out.cur.fz
          clear hb6' HJ1
          have HJ3 := hid (HJ2.out.set (u := .bool s4) y0 (fun z h => by cases h) (by omega) hgok hggl HNE.out)
          have z1 := kCo (u := .slice x n c) (v := .bool s4) (by omega : j * 3 ≠ j * 3 + 1) y1
          have z2 := kCo (v := .bool s4) (by omega : j * 3 ≠ j * 3 + 2) y2
          have HJ4 := hid (HJ3.out.set (u := .slice x4 n4 c4) z1 (fun z h => by cases h) (by omega) hgok hggl HNE.out)
          have z3 := kCo (v := .slice x4 n4 c4) (by omega : j * 3 + 1 ≠ j * 3 + 2) z2
          have HJ5 := hid (HJ4.out.set (u := .slice y4 m4 d4) z3 (fun z h => by cases h) (by omega) hgok hggl HNE.out)
          clear z1 z2 z3 HJ2 HJ3 HJ4
          go_wp2
          go_roundw
          case rel => exact ⟨j + 1, by omega, by go_num, HJ5.out⟩
          case measure => simp [intOf]; omega
        · have e1 : j = K := by omega
          have j1 : ¬ (((j : Nat) : Int) < ((K : Nat) : Int)) := by omega
          go_wp2
          go_roundw
          case rel => exact ⟨i + 1, by omega, by go_num, HJ.out.kq, HJ.out.bl, HJ.out.pe, HJ.out.lt⟩
          case measure => simp [intOf]; omega
    · have e1 : i = 4 := by omega
      have i1 : ¬ (((i : Nat) : Int) < 4) := by omega
      have KQ := hid HI.out.kq
      have hnok : ∀ b, b < wA.heap.size ∨ (wC.heap.size ≤ b ∧ b < wE.heap.size) → ¬ ok b := fun b h1 h2 => by
        rw [HOK.out] at h2
        have hac : wA.heap.size ≤ wC.heap.size := by omega
        have hce : wC.heap.size ≤ wE.heap.size := Nat.le_trans hCD hds
        rcases h2 with h2 | h2 <;> rcases h1 with h1 | h1 <;> omega
      have BW : Below wA.heap.size wA wr := KQ.out.blw BA.out (fun b hb => hnok b (.inl hb))
      have hkD : ∀ b, wC.heap.size ≤ b → b < wD.heap.size → wr.heap[b]? = wD.heap[b]? := fun b h1 h2 => (KQ.out.block b (Nat.lt_of_lt_of_le h2 BD.out.size) (hnok b (.inr ⟨h1, Nat.lt_of_lt_of_le h2 hds⟩))).trans (BD.out.block b h2)
      have hk8 : wr.heap[b8]? = wE.heap[b8]? := (KQ.out.block b8 (Nat.lt_of_lt_of_le H8.out.lt BE.out.size) (hnok b8 (.inr ⟨by omega, H8.out.lt⟩))).trans (BE.out.block b8 H8.out.lt)
      have h1r := hid (H1a.out.below BW); have h5r := hid (H5.out.below BW); have h8r := hid (H8.out.of hk8)
      have BWw : Below w.heap.size w wr := HBa.out.trans (BW.mono HBa.out.size)
      have rr0 := hid (R0.out.below BWw)
      have rr1 := hid (R1.out.below BWw)
      have rr2 := hid (R2.out.below BWw)
      have PO := hid (show P3v k0 Y0 k1 Y1 k2 Y2 (.agg #[.slice u0 k0 v0, .slice u1 k1 v1, .slice u2 k2 v2]) wr from ⟨_, _, _, _, _, _, rfl, ⟨_, _, Y0, rfl, T0a.out.below BW, fun j _ => Sn.refl _⟩, ⟨_, _, Y1, rfl, T1a.out.below BW, fun j _ => Sn.refl _⟩, ⟨_, _, Y2, rfl, T2a.out.below BW, fun j _ => Sn.refl _⟩⟩)
      have PB := hid (show P3v k0 Y0 k1 Y1 k2 Y2 (.agg #[.slice (some ⟨h0, 0, none⟩) k0 k0, .slice (some ⟨h1, 0, none⟩) k1 k1, .slice (some ⟨h2, 0, none⟩) k2 k2]) wr from ⟨_, _, _, _, _, _, rfl, ⟨_, _, V0, rfl, Dh0.out.keep T0.out.1 hkD, fun j hj => (Dh0.out.el j hj).2.1⟩, ⟨_, _, V1, rfl, Dh1.out.keep T1.out.1 hkD, fun j hj => (Dh1.out.el j hj).2.1⟩, ⟨_, _, V2, rfl, Dh2.out.keep T2.out.1 hkD, fun j hj => (Dh2.out.el j hj).2.1⟩⟩)
      have SN0 := hid T0.out.2; have SN1 := hid T1.out.2; have SN2 := hid T2.out.2
      have HBW := hid BWw
      clear hnok BW hkD hk8 BWw KQ HI
      have r0 := h1r.out.cell (j := 0) rfl
      have r1 := h1r.out.cell (j := 1) rfl
      have r2 := h1r.out.cell (j := 2) rfl
      have l0 := h5r.out.cell (j := 0) rfl
      have l1 := h5r.out.cell (j := 1) rfl
      have l2 := h5r.out.cell (j := 2) rfl
      go_wp2_with fail
      refine (p3_same rr0.out rr1.out rr2.out SN0.out SN1.out SN2.out N0.out N1.out N2.out HF.out PO.out).mono ?_
      rintro e w20 ⟨rfl, hb20⟩
      replace h1r := hid (h1r.out.below hb20); replace h8r := hid (h8r.out.below hb20); replace PB := hid (PB.out.below hb20); replace rr0 := hid (rr0.out.below hb20); replace rr1 := hid (rr1.out.below hb20); replace rr2 := hid (rr2.out.below hb20); replace HBW := hid (HBW.out.trans (hb20.mono HBW.out.size))
      clear hb20 r0 r1 r2 l0 l1 l2
      have r0 := h1r.out.cell (j := 0) rfl
      have r1 := h1r.out.cell (j := 1) rfl
      have r2 := h1r.out.cell (j := 2) rfl
      have l0 := h8r.out.cell (j := 0) rfl
      have l1 := h8r.out.cell (j := 1) rfl
      have l2 := h8r.out.cell (j := 2) rfl
      go_wp2_with fail
      refine (p3_same rr0.out rr1.out rr2.out SN0.out SN1.out SN2.out N0.out N1.out N2.out HF.out PB.out).mono ?_
      rintro e w21 ⟨rfl, hb21⟩
      replace HBW := hid (HBW.out.trans (hb21.mono HBW.out.size))
      go_wp2
      go_ret
      exact ⟨rfl, HBW.out⟩
end Go.Proofs.Ytllpllebmknmpaa

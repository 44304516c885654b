/-
  The walk of StackSame (written by makers/o13.py).
-/
import Derived.Test.YtllpllebmknmpaaZ0
import Derived.Test.YtllpllebmknmpaaZ1
import Derived.Test.YtllpllebmknmpaaZ2
import Derived.Test.YtllpllebmknmpaaZ3
import Derived.Test.YtllpllebmknmpaaZ4
import Derived.Test.YtllpllebmknmpaaYStacksame0
import Derived.Test.YtllpllebmknmpaaYStacksame1
import Derived.Test.YtllpllebmknmpaaYStacksame2
import Derived.Deep.CutRange
namespace Go.Proofs.Ytllpllebmknmpaa
open Go.RowKit

/-- Primal's answer in one form. -/
def NumG (w w' : World) (e : Ending) (l : Nat) (X : Nat → Nm) (z : Int) : Prop := ∃ ao lx cx er, e = .returned (.tuple #[.slice ao lx cx, .int .i64 er]) ∧ Below w.heap.size w w' ∧ er = pnE l X z ∧ ((er ≠ 0 ∧ lx = 0) ∨ (er = 0 ∧ lx = l ∧ RS l X (.slice ao lx cx) w'))
theorem NumAns.g {w w' e l X z} {w0 : World} {a : Option Addr} (h : NumAns w w' e l X z) (hx : Rl w0 a l X) : NumG w w' e l X z := by
  obtain ⟨hb, ⟨h0, h1⟩ | ⟨h0, g, Y, h1, h2⟩⟩ := h
  · exact ⟨_, _, _, _, h1, hb, rfl, .inl ⟨h0, rfl⟩⟩
  · exact ⟨_, _, _, _, h1, hb, h0.symm, .inr ⟨rfl, rfl, h2.rs hx⟩⟩
def DualG (w w' : World) (e : Ending) (n k : Int) (k0 : Nat) (X0 : Nat → Nm) (k1 : Nat) (X1 : Nat → Nm) (k2 : Nat) (X2 : Nat → Nm) : Prop := ∃ p0 y0 q0 p1 y1 q1 p2 y2 q2 er, e = .returned (.tuple #[.agg #[.slice p0 y0 q0, .slice p1 y1 q1, .slice p2 y2 q2], .int .i64 er]) ∧ Below w.heap.size w w' ∧ er = ptE n k k0 X0 k1 X1 k2 X2 ∧ ((er ≠ 0 ∧ y0 = 0 ∧ y1 = 0 ∧ y2 = 0) ∨ (er = 0 ∧ y0 = k0 ∧ y1 = k1 ∧ y2 = k2 ∧ P3v k0 X0 k1 X1 k2 X2 (.agg #[.slice p0 y0 q0, .slice p1 y1 q1, .slice p2 y2 q2]) w'))
theorem DualAns.g {w w' e n k k0 X0 k1 X1 k2 X2} {w0 : World} {a0 a1 a2 : Option Addr} (h : DualAns w w' e n k k0 X0 k1 X1 k2 X2) (h0 : Rl w0 a0 k0 X0) (h1 : Rl w0 a1 k1 X1) (h2 : Rl w0 a2 k2 X2) : DualG w w' e n k k0 X0 k1 X1 k2 X2 := by
  obtain ⟨hb, ⟨e0, e1⟩ | ⟨e0, g0, Y0, g1, Y1, g2, Y2, e1, c0, c1, c2⟩⟩ := h
  · exact ⟨_, _, _, _, _, _, _, _, _, _, e1, hb, rfl, .inl ⟨e0, rfl, rfl, rfl⟩⟩
  · exact ⟨_, _, _, _, _, _, _, _, _, _, e1, hb, e0.symm, .inr ⟨rfl, rfl, rfl, rfl, _, _, _, _, _, _, rfl, c0.rs h0, c1.rs h1, c2.rs h2⟩⟩
/-- A basis and its point as Basis answers them. -/
def BasR (er : Int) (l0 : Nat) (F0 : Nat → Int) (l1 : Nat) (F1 : Nat → Int) (k0 : Nat) (X0 : Nat → Nm) (k1 : Nat) (X1 : Nat → Nm) (k2 : Nat) (X2 : Nat → Nm) (x0 x1 y0 y1 y2 : Nat) (f0 : Option Addr) (g0 : Nat) (f1 : Option Addr) (g1 : Nat) (p0 : Option Addr) (q0 : Nat) (p1 : Option Addr) (q1 : Nat) (p2 : Option Addr) (q2 : Nat) (w : World) : Prop :=
  (er ≠ 0 ∧ x0 = 0 ∧ x1 = 0 ∧ y0 = 0 ∧ y1 = 0 ∧ y2 = 0) ∨ (er = 0 ∧ x0 = l0 ∧ x1 = l1 ∧ y0 = k0 ∧ y1 = k1 ∧ y2 = k2 ∧ B2v l0 F0 l1 F1 (.agg #[.slice f0 x0 g0, .slice f1 x1 g1]) w ∧ P3v k0 X0 k1 X1 k2 X2 (.agg #[.slice p0 y0 q0, .slice p1 y1 q1, .slice p2 y2 q2]) w)
theorem BasR.below {er l0 F0 l1 F1 k0 X0 k1 X1 k2 X2 x0 x1 y0 y1 y2 f0 g0 f1 g1 p0 q0 p1 q1 p2 q2 w w'} (h : BasR er l0 F0 l1 F1 k0 X0 k1 X1 k2 X2 x0 x1 y0 y1 y2 f0 g0 f1 g1 p0 q0 p1 q1 p2 q2 w) (hb : Below w.heap.size w w') : BasR er l0 F0 l1 F1 k0 X0 k1 X1 k2 X2 x0 x1 y0 y1 y2 f0 g0 f1 g1 p0 q0 p1 q1 p2 q2 w' := by
  rcases h with h | ⟨h1, h2, h3, h4, h5, h6, h7, h8⟩
  · exact .inl h
  · exact .inr ⟨h1, h2, h3, h4, h5, h6, h7.below hb, h8.below hb⟩
theorem BasR.st {er l0 F0 l1 F1 k0 X0 k1 X1 k2 X2 x0 x1 y0 y1 y2 f0 g0 f1 g1 p0 q0 p1 q1 p2 q2} {w w' : World} {B : Nat} (h : BasR er l0 F0 l1 F1 k0 X0 k1 X1 k2 X2 x0 x1 y0 y1 y2 f0 g0 f1 g1 p0 q0 p1 q1 p2 q2 w) (hk : Kp w w') (hne : ∀ b, b ≠ B → w'.heap[b]? = w.heap[b]?) (hnb : ∀ o s, w.cell? ⟨B, o, none⟩ ≠ some (.bool s)) (hni : ∀ o z, w.cell? ⟨B, o, none⟩ ≠ some (.int .i64 z)) : BasR er l0 F0 l1 F1 k0 X0 k1 X1 k2 X2 x0 x1 y0 y1 y2 f0 g0 f1 g1 p0 q0 p1 q1 p2 q2 w' := by
  rcases h with h | ⟨h1, h2, h3, h4, h5, h6, h7, h8⟩
  · exact .inl h
  · exact .inr ⟨h1, h2, h3, h4, h5, h6, h7.st hne hni, h8.st hk hne hnb⟩
def BasG (w w' : World) (e : Ending) (n k : Int) (l0 : Nat) (F0 : Nat → Int) (l1 : Nat) (F1 : Nat → Int) (k0 : Nat) (X0 : Nat → Nm) (k1 : Nat) (X1 : Nat → Nm) (k2 : Nat) (X2 : Nat → Nm) : Prop := ∃ f0 x0 g0 f1 x1 g1 p0 y0 q0 p1 y1 q1 p2 y2 q2 er, e = .returned (.tuple #[.agg #[.slice f0 x0 g0, .slice f1 x1 g1], .agg #[.slice p0 y0 q0, .slice p1 y1 q1, .slice p2 y2 q2], .int .i64 er]) ∧ Below w.heap.size w w' ∧ er = coE n k l0 F0 l1 F1 k0 X0 k1 X1 k2 X2 ∧ BasR er l0 F0 l1 F1 k0 X0 k1 X1 k2 X2 x0 x1 y0 y1 y2 f0 g0 f1 g1 p0 q0 p1 q1 p2 q2 w'
theorem BasAns.g {w w' e n k l0 F0 l1 F1 k0 X0 k1 X1 k2 X2} (h : BasAns w w' e n k l0 F0 l1 F1 k0 X0 k1 X1 k2 X2) : BasG w w' e n k l0 F0 l1 F1 k0 X0 k1 X1 k2 X2 := by
  obtain ⟨hb, ⟨e0, e1⟩ | ⟨e0, f0, g0, f1, g1, p0, q0, p1, q1, p2, q2, e1, h5⟩⟩ := h
  · exact ⟨_, _, _, _, _, _, _, _, _, _, _, _, _, _, _, _, e1, hb, rfl, .inl ⟨e0, rfl, rfl, rfl, rfl, rfl⟩⟩
  · obtain ⟨_, _, _, _, _, _, _, _, _, _, e2, h6, h7⟩ := h5
    cases e2
    exact ⟨_, _, _, _, _, _, _, _, _, _, _, _, _, _, _, _, e1, hb, e0.symm, .inr ⟨rfl, rfl, rfl, rfl, rfl, rfl, h6, h7⟩⟩
/-- A list of one list of numbers. -/
def pick1 {T : Type} (a : T) (_ : Nat) : T := a
theorem ll_one {w : World} {t : TypeId} {a0 : Option Addr} {k0 c0 : Nat} {X0 : Nat → Nm} (h0 : Rl w a0 k0 X0) (l0 : k0 ≤ 10000 ∧ ∀ j, j < k0 → (X0 j).n ≤ 1000 ∧ (X0 j).m ≤ 1000) :
    LL (w.alloc (.cells #[.slice a0 k0 c0] t)) (some ⟨w.heap.size, 0, none⟩) 1 (pick1 a0) (pick1 k0) (pick1 c0) (pick1 X0) := fun i hi => by
  have hb := below_alloc (Below.refl w.heap.size w) (.cells #[.slice a0 k0 c0] t)
  obtain rfl : i = 0 := by omega
  exact ⟨_, 0, rfl, by simp [go_sem, pick1], h0.below hb, l0⟩
def L1 (a0 : Option Addr) (k0 c0 : Nat) (X0 : Nat → Nm) (v : Value) (w : World) : Prop := ∃ b, v = .slice (some ⟨b, 0, none⟩) 1 1 ∧ LL w (some ⟨b, 0, none⟩) 1 (pick1 a0) (pick1 k0) (pick1 c0) (pick1 X0)
theorem L1.below {a0 k0 c0 X0 v w w'} (h : L1 a0 k0 c0 X0 v w) (hb : Below w.heap.size w w') : L1 a0 k0 c0 X0 v w' := by
  obtain ⟨b, h1, h2⟩ := h
  exact ⟨b, h1, h2.below hb⟩
def E3 (a b c : Int) (v : Value) (w : World) : Prop := ∃ g, v = .slice (some ⟨g, 0, none⟩) 3 3 ∧ El w (some ⟨g, 0, none⟩) 3 (tri a b c)
theorem E3.below {a b c v w w'} (h : E3 a b c v w) (hb : Below w.heap.size w w') : E3 a b c v w' := by
  obtain ⟨g, h1, h2⟩ := h
  exact ⟨g, h1, h2.below hb⟩
theorem pt_lists {n k : Int} {k0 k1 k2 : Nat} {X0 X1 X2 : Nat → Nm} : lmin (lstF n (pick2 k0 k2) (pick2 X0 X2) 2) (lstF k (pick1 k1) (pick1 X1) 1) = ptE n k k0 X0 k1 X1 k2 X2 := by
  rw [lstF_two, lstF_one]
  show lmin (lmin (pnE k0 X0 n) (pnE k2 X2 n)) (pnE k1 X1 k) = lsf (tri (pnE k0 X0 n) (pnE k1 X1 k) (pnE k2 X2 n)) 3
  rcases pnE_in k0 X0 n with h0 | h0 | h0 <;> rcases pnE_in k1 X1 k with h1 | h1 | h1 <;> rcases pnE_in k2 X2 n with h2 | h2 | h2 <;> rw [h0, h1, h2] <;> decide
theorem tri_in {a b c : Int} (ha : a = 0 ∨ a = 3 ∨ a = 7) (hb : b = 0 ∨ b = 3 ∨ b = 7) (hc : c = 0 ∨ c = 3 ∨ c = 7) : (lsf (tri a b c) 3 = 0 ∨ lsf (tri a b c) 3 = 3 ∨ lsf (tri a b c) 3 = 7) ∧ (lsf (tri a b c) 3 = 0 → a = 0 ∧ b = 0 ∧ c = 0) ∧ lsf (tri c a b) 3 = lsf (tri a b c) 3 := by
  rcases ha with rfl | rfl | rfl <;> rcases hb with rfl | rfl | rfl <;> rcases hc with rfl | rfl | rfl <;> decide
theorem pnE_af {k : Nat} {X : Nat → Nm} {z : Int} (h : pnE k X z = 0) : afB k X = true := by
  unfold pnE at h
  split at h
  · assumption
  · cases h
theorem ptE_zero {n k : Int} {k0 k1 k2 : Nat} {X0 X1 X2 : Nat → Nm} (h : ptE n k k0 X0 k1 X1 k2 X2 = 0) : afB k0 X0 = true ∧ afB k1 X1 = true ∧ afB k2 X2 = true := by
  obtain ⟨h0, h1, h2⟩ := (tri_in (pnE_in k0 X0 n) (pnE_in k1 X1 k) (pnE_in k2 X2 n)).2.1 h
  exact ⟨pnE_af h0, pnE_af h1, pnE_af h2⟩
theorem co_lists {n k : Int} {l0 l1 k0 k1 k2 : Nat} {F0 F1 : Nat → Int} {X0 X1 X2 : Nat → Nm} : lsf (tri (ptE n k k0 X0 k1 X1 k2 X2) (stE l0 F0 n) (stE l1 F1 k)) 3 = coE n k l0 F0 l1 F1 k0 X0 k1 X1 k2 X2 :=
  (tri_in (stE_in l0 F0 n) (stE_in l1 F1 k) (tri_in (pnE_in k0 X0 n) (pnE_in k1 X1 k) (pnE_in k2 X2 n)).1).2.2
theorem coE_zero {n k : Int} {l0 l1 k0 k1 k2 : Nat} {F0 F1 : Nat → Int} {X0 X1 X2 : Nat → Nm} (h : coE n k l0 F0 l1 F1 k0 X0 k1 X1 k2 X2 = 0) : ptE n k k0 X0 k1 X1 k2 X2 = 0 :=
  ((tri_in (stE_in l0 F0 n) (stE_in l1 F1 k) (tri_in (pnE_in k0 X0 n) (pnE_in k1 X1 k) (pnE_in k2 X2 n)).1).2.1 h).2.2
/-- A point that is told by copies, and the point itself, compare equal. -/
theorem p3_same {w : World} {a0 a1 a2 : Option Addr} {k0 k1 k2 : Nat} {X0 X1 X2 Y0 Y1 Y2 : Nat → Nm} {c0 c1 c2 : Nat} {p0 p1 p2 : Option Addr} {q0 q1 q2 : Nat} (r0 : Rl w a0 k0 X0) (r1 : Rl w a1 k1 X1) (r2 : Rl w a2 k2 X2) (s0 : ∀ j, j < k0 → Sn (X0 j) (Y0 j)) (s1 : ∀ j, j < k1 → Sn (X1 j) (Y1 j)) (s2 : ∀ j, j < k2 → Sn (X2 j) (Y2 j))
    (n0 : k0 ≤ 300 ∧ ∀ j, j < k0 → (X0 j).n ≤ 10 ∧ (X0 j).m ≤ 10) (n1 : k1 ≤ 300 ∧ ∀ j, j < k1 → (X1 j).n ≤ 10 ∧ (X1 j).m ≤ 10) (n2 : k2 ≤ 300 ∧ ∀ j, j < k2 → (X2 j).n ≤ 10 ∧ (X2 j).m ≤ 10) (hf : afB k0 X0 = true ∧ afB k1 X1 = true ∧ afB k2 X2 = true)
    (h : P3v k0 Y0 k1 Y1 k2 Y2 (.agg #[.slice p0 k0 q0, .slice p1 k1 q1, .slice p2 k2 q2]) w) :
    Calls Try.prog 21 #[.agg #[.slice p0 k0 q0, .slice p1 k1 q1, .slice p2 k2 q2], .agg #[.slice a0 k0 c0, .slice a1 k1 c1, .slice a2 k2 c2]] w fun e w' => e = .returned (.bool true) ∧ Below w.heap.size w w' := by
  obtain ⟨_, _, _, _, _, _, ee, z0, z1, z2⟩ := h
  cases ee
  obtain ⟨_, _, Z0, ez0, z0, zs0⟩ := z0
  cases ez0
  obtain ⟨_, _, Z1, ez1, z1, zs1⟩ := z1
  cases ez1
  obtain ⟨_, _, Z2, ez2, z2, zs2⟩ := z2
  cases ez2
  obtain ⟨p0, lp0, pa0, pb0⟩ := sames_of (K := 10) r0 z0 (fun j hj => (s0 j hj).trans (zs0 j hj)) hf.1 n0.2
  obtain ⟨p1, lp1, pa1, pb1⟩ := sames_of (K := 10) r1 z1 (fun j hj => (s1 j hj).trans (zs1 j hj)) hf.2.1 n1.2
  obtain ⟨p2, lp2, pa2, pb2⟩ := sames_of (K := 10) r2 z2 (fun j hj => (s2 j hj).trans (zs2 j hj)) hf.2.2 n2.2
  exact samePt_c pb0 pa0 lp0 (Nat.le_trans n0.1 (by decide)) pb1 pa1 lp1 (Nat.le_trans n1.1 (by decide)) pb2 pa2 lp2 (Nat.le_trans n2.1 (by decide)) (by decide) (by decide)
theorem RS.tr {k : Nat} {X Y : Nat → Nm} {v : Value} {w : World} (h : RS k Y v w) (hs : ∀ j, j < k → Sn (X j) (Y j)) : RS k X v w := by
  obtain ⟨ao, c, Z, h1, h2, h3⟩ := h
  exact ⟨ao, c, Z, h1, h2, fun j hj => (hs j hj).trans (h3 j hj)⟩
theorem P3v.tr {k0 k1 k2 : Nat} {X0 X1 X2 Y0 Y1 Y2 : Nat → Nm} {v : Value} {w : World} (h : P3v k0 Y0 k1 Y1 k2 Y2 v w) (h0 : ∀ j, j < k0 → Sn (X0 j) (Y0 j)) (h1 : ∀ j, j < k1 → Sn (X1 j) (Y1 j)) (h2 : ∀ j, j < k2 → Sn (X2 j) (Y2 j)) : P3v k0 X0 k1 X1 k2 X2 v w := by
  obtain ⟨p0, q0, p1, q1, p2, q2, e, s0, s1, s2⟩ := h
  exact ⟨p0, q0, p1, q1, p2, q2, e, s0.tr h0, s1.tr h1, s2.tr h2⟩
/-- What stands behind the call of Basis. -/
structure SQ (w wz : World) (n k : Int) (l0 : Nat) (F0 : Nat → Int) (l1 : Nat) (F1 : Nat → Int) (k0 : Nat) (X0 : Nat → Nm) (k1 : Nat) (X1 : Nat → Nm) (k2 : Nat) (X2 : Nat → Nm) (a0 : Option Addr) (c0 : Nat) (a1 : Option Addr) (c1 : Nat) (a2 : Option Addr) (c2 : Nat) (b0 : Option Addr) (d0 : Nat) (b1 : Option Addr) (d1 : Nat) (g g3 : Nat) (f0 : Option Addr) (x0 e0 : Nat) (f1 : Option Addr) (x1 e1 : Nat) (p0 : Option Addr) (y0 q0 : Nat) (p1 : Option Addr) (y1 q1 : Nat) (p2 : Option Addr) (y2 q2 : Nat) (ef : Int) : Prop where
  bel : Below w.heap.size w wz
  h1 : Bk wz w.heap.size [.slice a0 k0 c0, .slice a1 k1 c1, .slice a2 k2 c2] 32
  h2 : Bk wz (w.heap.size + 1) [.slice b0 l0 d0, .slice b1 l1 d1] 35
  hb : Bk wz g [.slice f0 x0 e0, .slice f1 x1 e1] 35
  hd : Bk wz g3 [.slice p0 y0 q0, .slice p1 y1 q1, .slice p2 y2 q2] 32
  er : ef = coE n k l0 F0 l1 F1 k0 X0 k1 X1 k2 X2
  bas : BasR ef l0 F0 l1 F1 k0 X0 k1 X1 k2 X2 x0 x1 y0 y1 y2 f0 e0 f1 e1 p0 q0 p1 q1 p2 q2 wz
theorem Sn.refl (t : Nm) : Sn t t := ⟨rfl, rfl, rfl, rfl, rfl⟩
set_option maxRecDepth 100000 in
set_option maxHeartbeats 16000000 in
theorem stackSame_x {a0 a1 a2 b0 b1 : Option Addr} {k0 c0 k1 c1 k2 c2 l0 d0 l1 d1 : Nat} {X0 X1 X2 : Nat → Nm} {F0 F1 : Nat → Int} (n k : Int) (w : World) (hp0 : Rr w a0 k0 X0 ∧ k0 ≤ c0 ∧ c0 ≤ 9223372036854775807) (hp1 : Rr w a1 k1 X1 ∧ k1 ≤ c1 ∧ c1 ≤ 9223372036854775807) (hp2 : Rr w a2 k2 X2 ∧ k2 ≤ c2 ∧ c2 ≤ 9223372036854775807) (hb0 : El w b0 l0 F0 ∧ (b0 = none → l0 = 0 ∧ d0 = 0) ∧ l0 ≤ d0 ∧ d0 ≤ 9223372036854775807) (hb1 : El w b1 l1 F1 ∧ (b1 = none → l1 = 0 ∧ d1 = 0) ∧ l1 ≤ d1 ∧ d1 ≤ 9223372036854775807) :
    Calls Try.prog 4 #[.int .i64 n, .int .i64 k, .agg #[.slice a0 k0 c0, .slice a1 k1 c1, .slice a2 k2 c2], .agg #[.slice b0 l0 d0, .slice b1 l1 d1]] w fun e w' => e = .returned (.bool true) ∧ Below w.heap.size w w' := by
  have C0 := hid (fun W (hW : Below w.heap.size w W) => rLights_c (w := W) (cap := c0) 10 (hp0.1.below hW) (by omega))
  have C1 := hid (fun W (hW : Below w.heap.size w W) => rLights_c (w := W) (cap := c1) 10 (hp1.1.below hW) (by omega))
  have C2 := hid (fun W (hW : Below w.heap.size w W) => rLights_c (w := W) (cap := c2) 10 (hp2.1.below hW) (by omega))
  obtain ⟨q0, hq0⟩ : ∃ q, (decide (k0 ≤ 300) && nlg 10 X0 k0 0) = q := ⟨_, rfl⟩
  rw [hq0] at C0
  obtain ⟨q1, hq1⟩ : ∃ q, (decide (k1 ≤ 300) && nlg 10 X1 k1 0) = q := ⟨_, rfl⟩
  rw [hq1] at C1
  obtain ⟨q2, hq2⟩ : ∃ q, (decide (k2 ≤ 300) && nlg 10 X2 k2 0) = q := ⟨_, rfl⟩
  rw [hq2] at C2
  have HQ0 := hid hq0; have HQ1 := hid hq1; have HQ2 := hid hq2
  have HR0 := hid hp0.1; have HR1 := hid hp1.1; have HR2 := hid hp2.1
  have G0 := hid hb0.1; have G1 := hid hb1.1; have GN0 := hid hb0.2.1; have GN1 := hid hb1.2.1
  clear hp0 hp1 hp2 hb0 hb1 hq0 hq1 hq2
  have hb := below_alloc (below_alloc (Below.refl w.heap.size w) (.cells #[.slice a0 k0 c0, .slice a1 k1 c1, .slice a2 k2 c2] 32)) (.cells #[.slice b0 l0 d0, .slice b1 l1 d1] 35)
  have H1 := hid (show Bk ((w.alloc (.cells #[.slice a0 k0 c0, .slice a1 k1 c1, .slice a2 k2 c2] 32)).alloc (.cells #[.slice b0 l0 d0, .slice b1 l1 d1] 35)) w.heap.size [.slice a0 k0 c0, .slice a1 k1 c1, .slice a2 k2 c2] 32 from (bk_new w [.slice a0 k0 c0, .slice a1 k1 c1, .slice a2 k2 c2] 32).below (below_alloc (Below.refl _ _) (.cells #[.slice b0 l0 d0, .slice b1 l1 d1] 35)))
  have H2 := hid (show Bk ((w.alloc (.cells #[.slice a0 k0 c0, .slice a1 k1 c1, .slice a2 k2 c2] 32)).alloc (.cells #[.slice b0 l0 d0, .slice b1 l1 d1] 35)) (w.heap.size + 1) [.slice b0 l0 d0, .slice b1 l1 d1] 35 from by
    have := bk_new (w.alloc (.cells #[.slice a0 k0 c0, .slice a1 k1 c1, .slice a2 k2 c2] 32)) [.slice b0 l0 d0, .slice b1 l1 d1] 35
    rw [size_alloc1] at this
    exact this)
  have HB := hid hb
  clear hb
  go_enter Try.func4, Try.ntmps4
  go_wp2_with fail
  generalize (w.alloc (.cells #[.slice a0 k0 c0, .slice a1 k1 c1, .slice a2 k2 c2] 32)).alloc (.cells #[.slice b0 l0 d0, .slice b1 l1 d1] 35) = w1 at *
  refine (awake17_c _).mono ?_
  rintro e w2 ⟨rfl, hb2⟩
  replace HB := hid (HB.out.trans (hb2.mono HB.out.size)); replace H1 := hid (H1.out.below hb2); replace H2 := hid (H2.out.below hb2)
  clear hb2
  by_cases hr : n < 0 ∨ 64 < n ∨ k < 0 ∨ 64 < k
  · go_wp2_with fail
    refine (snewE_c hr).mono ?_
    rintro e w3 ⟨rfl, rfl⟩
    go_wp2
    go_ret
    exact ⟨rfl, HB.out⟩
  go_wp2_with fail
  refine (snew_c (n := n) (k := k) (by omega) (by omega) (by omega) (by omega)).mono ?_
  rintro e w3 ⟨B, rfl, hb3, hs3⟩
  have HS := hid hs3.out.2
  replace HB := hid (HB.out.trans (hb3.mono HB.out.size)); replace H1 := hid (H1.out.below hb3); replace H2 := hid (H2.out.below hb3)
  clear hb3 hs3 hr
  by_cases hl0 : l0 ≤ 300
  case neg =>
    have i0 : (300 : Int) < ((l0 : Nat) : Int) := by omega
    have r0 := H1.out.cell (j := 0) rfl
    go_wp2_with fail
    refine (C0.out _ HB.out).mono ?_
    rintro e w4 ⟨rfl, hb4⟩
    replace HB := hid (HB.out.trans (hb4.mono HB.out.size)); replace H1 := hid (H1.out.below hb4); replace H2 := hid (H2.out.below hb4); replace HS := hid (HS.out.below hb4)
    clear hb4 r0
    cases q0
    · go_wp2
      go_ret
      exact ⟨rfl, HB.out⟩
    have r1 := H1.out.cell (j := 1) rfl
    go_wp2_with fail
    refine (C1.out _ HB.out).mono ?_
    rintro e w5 ⟨rfl, hb5⟩
    replace HB := hid (HB.out.trans (hb5.mono HB.out.size)); replace H1 := hid (H1.out.below hb5); replace H2 := hid (H2.out.below hb5); replace HS := hid (HS.out.below hb5)
    clear hb5 r1
    cases q1
    · go_wp2
      go_ret
      exact ⟨rfl, HB.out⟩
    have r2 := H1.out.cell (j := 2) rfl
    go_wp2_with fail
    refine (C2.out _ HB.out).mono ?_
    rintro e w6 ⟨rfl, hb6⟩
    replace HB := hid (HB.out.trans (hb6.mono HB.out.size)); replace H1 := hid (H1.out.below hb6); replace H2 := hid (H2.out.below hb6); replace HS := hid (HS.out.below hb6)
    clear hb6 r2
    have t0 := H2.out.cell (j := 0) rfl
    have t1 := H2.out.cell (j := 1) rfl
    cases q2
    · go_wp2
      go_ret
      exact ⟨rfl, HB.out⟩
    go_wp2
    go_ret
    exact ⟨rfl, HB.out⟩
  by_cases hl1 : l1 ≤ 300
  case neg =>
    have i0 : ¬ (300 : Int) < ((l0 : Nat) : Int) := by omega
    have i1 : (300 : Int) < ((l1 : Nat) : Int) := by omega
    have r0 := H1.out.cell (j := 0) rfl
    go_wp2_with fail
    refine (C0.out _ HB.out).mono ?_
    rintro e w4 ⟨rfl, hb4⟩
    replace HB := hid (HB.out.trans (hb4.mono HB.out.size)); replace H1 := hid (H1.out.below hb4); replace H2 := hid (H2.out.below hb4); replace HS := hid (HS.out.below hb4)
    clear hb4 r0
    cases q0
    · go_wp2
      go_ret
      exact ⟨rfl, HB.out⟩
    have r1 := H1.out.cell (j := 1) rfl
    go_wp2_with fail
    refine (C1.out _ HB.out).mono ?_
    rintro e w5 ⟨rfl, hb5⟩
    replace HB := hid (HB.out.trans (hb5.mono HB.out.size)); replace H1 := hid (H1.out.below hb5); replace H2 := hid (H2.out.below hb5); replace HS := hid (HS.out.below hb5)
    clear hb5 r1
    cases q1
    · go_wp2
      go_ret
      exact ⟨rfl, HB.out⟩
    have r2 := H1.out.cell (j := 2) rfl
    go_wp2_with fail
    refine (C2.out _ HB.out).mono ?_
    rintro e w6 ⟨rfl, hb6⟩
    replace HB := hid (HB.out.trans (hb6.mono HB.out.size)); replace H1 := hid (H1.out.below hb6); replace H2 := hid (H2.out.below hb6); replace HS := hid (HS.out.below hb6)
    clear hb6 r2
    have t0 := H2.out.cell (j := 0) rfl
    have t1 := H2.out.cell (j := 1) rfl
    cases q2
    · go_wp2
      go_ret
      exact ⟨rfl, HB.out⟩
    go_wp2
    go_ret
    exact ⟨rfl, HB.out⟩
  have i0 : ¬ (300 : Int) < ((l0 : Nat) : Int) := by omega
  have i1 : ¬ (300 : Int) < ((l1 : Nat) : Int) := by omega
  have r0 := H1.out.cell (j := 0) rfl
  go_wp2_with fail
  refine (C0.out _ HB.out).mono ?_
  rintro e w4 ⟨rfl, hb4⟩
  replace HB := hid (HB.out.trans (hb4.mono HB.out.size)); replace H1 := hid (H1.out.below hb4); replace H2 := hid (H2.out.below hb4); replace HS := hid (HS.out.below hb4)
  clear hb4 r0
  cases q0
  · go_wp2
    go_ret
    exact ⟨rfl, HB.out⟩
  have r1 := H1.out.cell (j := 1) rfl
  go_wp2_with fail
  refine (C1.out _ HB.out).mono ?_
  rintro e w5 ⟨rfl, hb5⟩
  replace HB := hid (HB.out.trans (hb5.mono HB.out.size)); replace H1 := hid (H1.out.below hb5); replace H2 := hid (H2.out.below hb5); replace HS := hid (HS.out.below hb5)
  clear hb5 r1
  cases q1
  · go_wp2
    go_ret
    exact ⟨rfl, HB.out⟩
  have r2 := H1.out.cell (j := 2) rfl
  go_wp2_with fail
  refine (C2.out _ HB.out).mono ?_
  rintro e w6 ⟨rfl, hb6⟩
  replace HB := hid (HB.out.trans (hb6.mono HB.out.size)); replace H1 := hid (H1.out.below hb6); replace H2 := hid (H2.out.below hb6); replace HS := hid (HS.out.below hb6)
  clear hb6 r2
  have t0 := H2.out.cell (j := 0) rfl
  have t1 := H2.out.cell (j := 1) rfl
  cases q2
  · go_wp2
    go_ret
    exact ⟨rfl, HB.out⟩
  have N0 := hid (nlg_lim HQ0.out)
  have N1 := hid (nlg_lim HQ1.out)
  have N2 := hid (nlg_lim HQ2.out)
  have R0 := hid (HR0.out.rl (nlgB HQ0.out) (by decide : 10 ≤ 65536))
  have R1 := hid (HR1.out.rl (nlgB HQ1.out) (by decide : 10 ≤ 65536))
  have R2 := hid (HR2.out.rl (nlgB HQ2.out) (by decide : 10 ≤ 65536))
  clear HQ0 HQ1 HQ2 HR0 HR1 HR2 C0 C1 C2
  have r0 := H1.out.cell (j := 0) rfl
  go_wp2_with fail
  refine (twins_c (cap := c0) (R0.out.below HB.out) (Nat.le_trans N0.out.1 (by decide)) (fun j hj => ⟨Nat.le_trans (N0.out.2 j hj).1 (by decide), Nat.le_trans (N0.out.2 j hj).2 (by decide)⟩)).mono ?_
  rintro e wa1 ⟨ta, tc, Y, rfl, hba, _, HT⟩
  replace HB := hid (HB.out.trans (hba.mono HB.out.size)); replace H1 := hid (H1.out.below hba); replace H2 := hid (H2.out.below hba); replace HS := hid (HS.out.below hba)
  clear hba r0 t0 t1
  go_wp2_with fail
  refine ((sprimal_c (cap := tc) HS.out HT.out.1 (Nat.le_trans N0.out.1 (by decide))).mono (fun _ _ h => h.g HT.out.1)).mono ?_
  rintro e wb1 ⟨xo, lx, cx, er, rfl, hba, her, hcase⟩
  rw [pnE_sn HT.out.2] at her
  have HSn := hid HT.out.2
  replace HB := hid (HB.out.trans (hba.mono HB.out.size)); replace H1 := hid (H1.out.below hba); replace H2 := hid (H2.out.below hba); replace HS := hid (HS.out.below hba)
  clear hba HT
  have hn := below_alloc (Below.refl wb1.heap.size wb1) (.cells #[.slice a0 k0 c0] 30)
  have HLL := hid (ll_one (w := wb1) (t := 30) (c0 := c0) (R0.out.below HB.out) ⟨Nat.le_trans N0.out.1 (by decide), (fun j hj => ⟨Nat.le_trans (N0.out.2 j hj).1 (by decide), Nat.le_trans (N0.out.2 j hj).2 (by decide)⟩)⟩)
  have HC := hid hcase
  have HER := hid her
  have HRS : Hid (∀ W, Below wb1.heap.size wb1 W → er = 0 → lx = k0 ∧ RS k0 Y (.slice xo lx cx) W) := fun W hW h0 => by
    rcases HC.out with ⟨h1, _⟩ | ⟨_, h2, h3⟩
    · exact absurd h0 h1
    · exact ⟨h2, h3.below hW⟩
  have HLX : Hid (er ≠ 0 → lx = 0) := fun h0 => by
    rcases HC.out with ⟨_, h2⟩ | ⟨h1, _⟩
    · exact h2
    · exact absurd h1 h0
  replace HRS : Hid (∀ W, Below (wb1.alloc (.cells #[.slice a0 k0 c0] 30)).heap.size (wb1.alloc (.cells #[.slice a0 k0 c0] 30)) W → er = 0 → lx = k0 ∧ RS k0 Y (.slice xo lx cx) W) := fun W hW => HRS.out W (hn.trans (hW.mono hn.size))
  have r0 := H1.out.cell (j := 0) rfl
  replace HB := hid (HB.out.trans (hn.mono HB.out.size)); replace H1 := hid (H1.out.below hn); replace H2 := hid (H2.out.below hn); replace HS := hid (HS.out.below hn)
  clear hn hcase her HC
  go_wp2_with fail
  generalize wb1.alloc (.cells #[.slice a0 k0 c0] 30) = wc1 at *
  clear r0
  refine (lists_c HLL.out (by decide)).mono ?_
  rintro e wd1 ⟨rfl, hba⟩
  rw [show lstF n (pick1 k0) (pick1 X0) 1 = er from lstF_one.trans HER.out.symm]
  replace HRS : Hid (∀ W, Below wd1.heap.size wd1 W → er = 0 → lx = k0 ∧ RS k0 Y (.slice xo lx cx) W) := fun W hW => HRS.out W (hba.trans (hW.mono hba.size))
  replace HB := hid (HB.out.trans (hba.mono HB.out.size)); replace H1 := hid (H1.out.below hba); replace H2 := hid (H2.out.below hba); replace HS := hid (HS.out.below hba)
  clear hba HLL
  go_upto_region 8 with fail
  go_cut [92] from 70 to 92 (fun u wx => ∃ (wz : World), wz = wx ∧ u = .bool false ∧ Below wd1.heap.size wd1 wz)
  case first =>
    have e0 : (er != er) = false := by simp
    by_cases h0 : er = 0
    · subst h0
      obtain ⟨rfl, hrs⟩ := HRS.out _ (Below.refl _ _) rfl
      obtain ⟨_, _, Z, ez, hz, hzs⟩ := hrs
      cases ez
      obtain ⟨pl, lp, pa, pb⟩ := sames_of (K := 10) (R0.out.below HB.out) hz (fun j hj => (HSn.out j hj).trans (hzs j hj)) (pnE_af HER.out.symm) N0.out.2
      have PL := hid lp; have PA := hid pa; have PB := hid pb
      clear hz hzs pa pb
      have r0 := H1.out.cell (j := 0) rfl
      go_wp2_with fail
      refine (samesEq_c PB.out PA.out PL.out (Nat.le_trans N0.out.1 (by decide)) (by decide) (by decide)).mono ?_
      rintro e we ⟨rfl, hbe⟩
      go_wp2_with fail
      go_meet
      exact ⟨_, rfl, rfl, hbe⟩
    · have e1 : (er == 0) = false := by simpa using h0
      have e2 : (er != 0) = true := by simpa using h0
      obtain rfl := HLX.out h0
      go_wp2_with fail
      go_meet
      exact ⟨_, rfl, rfl, Below.refl _ _⟩
  case rest =>
    obtain ⟨we1, rfl, rfl, hbe⟩ := hcut
    replace HB := hid (HB.out.trans (hbe.mono HB.out.size)); replace H1 := hid (H1.out.below hbe); replace H2 := hid (H2.out.below hbe); replace HS := hid (HS.out.below hbe)
    clear hbe HRS HLX HER HSn
    have r0 := H1.out.cell (j := 2) rfl
    go_wp2_with fail
    refine (twins_c (cap := c2) (R2.out.below HB.out) (Nat.le_trans N2.out.1 (by decide)) (fun j hj => ⟨Nat.le_trans (N2.out.2 j hj).1 (by decide), Nat.le_trans (N2.out.2 j hj).2 (by decide)⟩)).mono ?_
    rintro e wa2 ⟨ta, tc, Y, rfl, hba, _, HT⟩
    replace HB := hid (HB.out.trans (hba.mono HB.out.size)); replace H1 := hid (H1.out.below hba); replace H2 := hid (H2.out.below hba); replace HS := hid (HS.out.below hba)
    clear hba r0
    go_wp2_with fail
    refine ((slift_c (cap := tc) HS.out HT.out.1 (Nat.le_trans N2.out.1 (by decide))).mono (fun _ _ h => h.g HT.out.1)).mono ?_
    rintro e wb2 ⟨xo, lx, cx, er, rfl, hba, her, hcase⟩
    rw [pnE_sn HT.out.2] at her
    have HSn := hid HT.out.2
    replace HB := hid (HB.out.trans (hba.mono HB.out.size)); replace H1 := hid (H1.out.below hba); replace H2 := hid (H2.out.below hba); replace HS := hid (HS.out.below hba)
    clear hba HT
    have hn := below_alloc (Below.refl wb2.heap.size wb2) (.cells #[.slice a2 k2 c2] 30)
    have HLL := hid (ll_one (w := wb2) (t := 30) (c0 := c2) (R2.out.below HB.out) ⟨Nat.le_trans N2.out.1 (by decide), (fun j hj => ⟨Nat.le_trans (N2.out.2 j hj).1 (by decide), Nat.le_trans (N2.out.2 j hj).2 (by decide)⟩)⟩)
    have HC := hid hcase
    have HER := hid her
    have HRS : Hid (∀ W, Below wb2.heap.size wb2 W → er = 0 → lx = k2 ∧ RS k2 Y (.slice xo lx cx) W) := fun W hW h0 => by
      rcases HC.out with ⟨h1, _⟩ | ⟨_, h2, h3⟩
      · exact absurd h0 h1
      · exact ⟨h2, h3.below hW⟩
    have HLX : Hid (er ≠ 0 → lx = 0) := fun h0 => by
      rcases HC.out with ⟨_, h2⟩ | ⟨h1, _⟩
      · exact h2
      · exact absurd h1 h0
    replace HRS : Hid (∀ W, Below (wb2.alloc (.cells #[.slice a2 k2 c2] 30)).heap.size (wb2.alloc (.cells #[.slice a2 k2 c2] 30)) W → er = 0 → lx = k2 ∧ RS k2 Y (.slice xo lx cx) W) := fun W hW => HRS.out W (hn.trans (hW.mono hn.size))
    have r0 := H1.out.cell (j := 2) rfl
    replace HB := hid (HB.out.trans (hn.mono HB.out.size)); replace H1 := hid (H1.out.below hn); replace H2 := hid (H2.out.below hn); replace HS := hid (HS.out.below hn)
    clear hn hcase her HC
    go_wp2_with fail
    generalize wb2.alloc (.cells #[.slice a2 k2 c2] 30) = wc2 at *
    clear r0
    refine (lists_c HLL.out (by decide)).mono ?_
    rintro e wd2 ⟨rfl, hba⟩
    rw [show lstF n (pick1 k2) (pick1 X2) 1 = er from lstF_one.trans HER.out.symm]
    replace HRS : Hid (∀ W, Below wd2.heap.size wd2 W → er = 0 → lx = k2 ∧ RS k2 Y (.slice xo lx cx) W) := fun W hW => HRS.out W (hba.trans (hW.mono hba.size))
    replace HB := hid (HB.out.trans (hba.mono HB.out.size)); replace H1 := hid (H1.out.below hba); replace H2 := hid (H2.out.below hba); replace HS := hid (HS.out.below hba)
    clear hba HLL
    go_upto_region 12 with fail
    go_cut [128] from 106 to 128 (fun u wx => ∃ (wz : World), wz = wx ∧ u = .bool false ∧ Below wd2.heap.size wd2 wz)
    case first =>
      have e0 : (er != er) = false := by simp
      by_cases h0 : er = 0
      · subst h0
        obtain ⟨rfl, hrs⟩ := HRS.out _ (Below.refl _ _) rfl
        obtain ⟨_, _, Z, ez, hz, hzs⟩ := hrs
        cases ez
        obtain ⟨pl, lp, pa, pb⟩ := sames_of (K := 10) (R2.out.below HB.out) hz (fun j hj => (HSn.out j hj).trans (hzs j hj)) (pnE_af HER.out.symm) N2.out.2
        have PL := hid lp; have PA := hid pa; have PB := hid pb
        clear hz hzs pa pb
        have r0 := H1.out.cell (j := 2) rfl
        go_wp2_with fail
        refine (samesEq_c PB.out PA.out PL.out (Nat.le_trans N2.out.1 (by decide)) (by decide) (by decide)).mono ?_
        rintro e we ⟨rfl, hbe⟩
        go_wp2_with fail
        go_meet
        exact ⟨_, rfl, rfl, hbe⟩
      · have e1 : (er == 0) = false := by simpa using h0
        have e2 : (er != 0) = true := by simpa using h0
        obtain rfl := HLX.out h0
        go_wp2_with fail
        go_meet
        exact ⟨_, rfl, rfl, Below.refl _ _⟩
    case rest =>
      obtain ⟨we2, rfl, rfl, hbe⟩ := hcut
      replace HB := hid (HB.out.trans (hbe.mono HB.out.size)); replace H1 := hid (H1.out.below hbe); replace H2 := hid (H2.out.below hbe); replace HS := hid (HS.out.below hbe)
      clear hbe HRS HLX HER HSn
      have r0 := H1.out.cell (j := 0) rfl
      have r1 := H1.out.cell (j := 1) rfl
      have r2 := H1.out.cell (j := 2) rfl
      go_wp2_with fail
      refine (twPoint_c (R0.out.below HB.out) (R1.out.below HB.out) (R2.out.below HB.out) (Nat.le_trans N0.out.1 (by decide)) (Nat.le_trans N1.out.1 (by decide)) (Nat.le_trans N2.out.1 (by decide)) (fun j hj => ⟨Nat.le_trans (N0.out.2 j hj).1 (by decide), Nat.le_trans (N0.out.2 j hj).2 (by decide)⟩) (fun j hj => ⟨Nat.le_trans (N1.out.2 j hj).1 (by decide), Nat.le_trans (N1.out.2 j hj).2 (by decide)⟩) (fun j hj => ⟨Nat.le_trans (N2.out.2 j hj).1 (by decide), Nat.le_trans (N2.out.2 j hj).2 (by decide)⟩)).mono ?_
      rintro e wa3 ⟨u0, v0, Y0, u1, v1, Y1, u2, v2, Y2, rfl, hba, _, HT⟩
      replace HB := hid (HB.out.trans (hba.mono HB.out.size)); replace H1 := hid (H1.out.below hba); replace H2 := hid (H2.out.below hba); replace HS := hid (HS.out.below hba)
      clear hba r0 r1 r2
      obtain ⟨tt0, tt1, tt2⟩ := HT.out
      have T0 := hid tt0; have T1 := hid tt1; have T2 := hid tt2
      clear HT tt0 tt1 tt2
      go_wp2_with fail
      refine ((sdual_c HS.out T0.out.1 T1.out.1 T2.out.1 (Nat.le_trans N0.out.1 (by decide)) (Nat.le_trans N1.out.1 (by decide)) (Nat.le_trans N2.out.1 (by decide))).mono (fun _ _ h => h.g T0.out.1 T1.out.1 T2.out.1)).mono ?_
      rintro e wb3 ⟨p0, y0, q0, p1, y1, q1, p2, y2, q2, er, rfl, hba, her, hcase⟩
      have hpe : ptE n k k0 Y0 k1 Y1 k2 Y2 = ptE n k k0 X0 k1 X1 k2 X2 := by
        unfold ptE
        rw [pnE_sn T0.out.2, pnE_sn T1.out.2, pnE_sn T2.out.2]
      rw [hpe] at her
      have HER := hid her
      have HEL := hid (pt_lists (n := n) (k := k) (k0 := k0) (k1 := k1) (k2 := k2) (X0 := X0) (X1 := X1) (X2 := X2))
      rw [← her] at HEL
      have HC := hid hcase
      replace HB := hid (HB.out.trans (hba.mono HB.out.size)); replace H1 := hid (H1.out.below hba); replace H2 := hid (H2.out.below hba); replace HS := hid (HS.out.below hba)
      clear hpe her hba hcase
      have hn := below_alloc (Below.refl wb3.heap.size wb3) (.cells #[.slice p0 y0 q0, .slice p1 y1 q1, .slice p2 y2 q2] 32)
      obtain ⟨g3, hg3⟩ : ∃ z, wb3.heap.size = z := ⟨_, rfl⟩
      have HD := hid (show Bk (wb3.alloc (.cells #[.slice p0 y0 q0, .slice p1 y1 q1, .slice p2 y2 q2] 32)) g3 [.slice p0 y0 q0, .slice p1 y1 q1, .slice p2 y2 q2] 32 from hg3 ▸ bk_new wb3 [.slice p0 y0 q0, .slice p1 y1 q1, .slice p2 y2 q2] 32)
      have hlt1 := H2.out.lt
      have hltS := HS.out.lt
      have hg3' : w.heap.size + 1 < g3 ∧ B < g3 := by omega
      have SCase := hid (fun (h0 : er = 0) => show y0 = k0 ∧ y1 = k1 ∧ y2 = k2 ∧ P3v k0 Y0 k1 Y1 k2 Y2 (.agg #[.slice p0 y0 q0, .slice p1 y1 q1, .slice p2 y2 q2]) (wb3.alloc (.cells #[.slice p0 y0 q0, .slice p1 y1 q1, .slice p2 y2 q2] 32)) from by
        rcases HC.out with ⟨h1, _⟩ | ⟨_, h2, h3, h4, h5⟩
        · exact absurd h0 h1
        · exact ⟨h2, h3, h4, h5.below hn⟩)
      have SZero : Hid (er ≠ 0 → y0 = 0 ∧ y1 = 0 ∧ y2 = 0) := fun h0 => by
        rcases HC.out with ⟨_, h2⟩ | ⟨h1, _⟩
        · exact h2
        · exact absurd h1 h0
      replace HB := hid (HB.out.trans (hn.mono HB.out.size)); replace H1 := hid (H1.out.below hn); replace H2 := hid (H2.out.below hn); replace HS := hid (HS.out.below hn)
      clear hn HC hlt1 hltS
      go_upto_region 15 with fail
      simp only [hg3] at *
      generalize wb3.alloc (.cells #[.slice p0 y0 q0, .slice p1 y1 q1, .slice p2 y2 q2] 32) = wq at *
      have hbd := Below.drew (Below.refl wq.heap.size wq)
      replace HB := hid (HB.out.trans (hbd.mono HB.out.size)); replace H1 := hid (H1.out.below hbd); replace H2 := hid (H2.out.below hbd); replace HS := hid (HS.out.below hbd); replace HD := hid (HD.out.below hbd)
      replace SCase := hid (fun (h0 : er = 0) => show y0 = k0 ∧ y1 = k1 ∧ y2 = k2 ∧ P3v k0 Y0 k1 Y1 k2 Y2 (.agg #[.slice p0 y0 q0, .slice p1 y1 q1, .slice p2 y2 q2]) wq.drew from by obtain ⟨h1, h2, h3, h4⟩ := SCase.out h0; exact ⟨h1, h2, h3, h4.below hbd⟩)
      clear hbd
      have r0 := H1.out.cell (j := 0) rfl
      have r1 := H1.out.cell (j := 1) rfl
      have r2 := H1.out.cell (j := 2) rfl
      refine wp_region_held_drew (S := (fun w' => w'.cell? ⟨w.heap.size, 0, none⟩ = some (.slice a0 k0 c0) ∧ w'.cell? ⟨w.heap.size, 1, none⟩ = some (.slice a1 k1 c1) ∧ w'.cell? ⟨w.heap.size, 2, none⟩ = some (.slice a2 k2 c2))) (by kernel_rfl) ?_ (fun hHeld => ?_)
      · exact ⟨r0, r1, r2⟩
      generalize wq.drew = wd at *
      clear r0 r1 r2 hg3
      refine wpAnyH_take (i := 0) (v := ?_) rfl (by kernel_rfl) (by kernel_rfl) (by kernel_rfl) (fun _ _ _ h => h) (Or.inl ⟨by rfl, ?_⟩) (by assumption) ?_
      rotate_left
      (focus (intro w0 hSw; (try dsimp only at hSw); go_simp <;> with_reducible rfl))
      simp only [List.getElem_toArray, List.getElem_cons_zero, Act.put, List.setIfInBounds_toArray, List.set_cons_zero, List.set_cons_succ]
      refine wpAnyH_take (i := 1) (v := ?_) rfl (by kernel_rfl) (by kernel_rfl) (by kernel_rfl) (fun _ _ _ h => h) (Or.inl ⟨by rfl, ?_⟩) (by assumption) ?_
      rotate_left
      (focus (intro w0 hSw; (try dsimp only at hSw); go_simp <;> with_reducible rfl))
      simp only [List.getElem_toArray, List.getElem_cons_succ, List.getElem_cons_zero, Act.put, List.setIfInBounds_toArray, List.set_cons_zero, List.set_cons_succ]
      refine wpAnyH_take (i := 2) (v := ?_) rfl (by kernel_rfl) (by kernel_rfl) (by kernel_rfl) (fun _ _ _ h => h) (Or.inl ⟨by rfl, ?_⟩) (by assumption) ?_
      rotate_left
      (focus (intro w0 hSw; (try dsimp only at hSw); go_simp <;> with_reducible rfl))
      simp only [List.getElem_toArray, List.getElem_cons_succ, List.getElem_cons_zero, Act.put, List.setIfInBounds_toArray, List.set_cons_zero, List.set_cons_succ]
      refine wpAnyH_take (i := 3) (v := ?_) rfl (by kernel_rfl) (by kernel_rfl) (by kernel_rfl) (fun _ _ _ h => h) (Or.inl ⟨by rfl, ?_⟩) (by assumption) ?_
      rotate_left
      (focus (intro w0 hSw; (try dsimp only at hSw); go_simp <;> with_reducible rfl))
      simp only [List.getElem_toArray, List.getElem_cons_succ, List.getElem_cons_zero, Act.put, List.setIfInBounds_toArray, List.set_cons_zero, List.set_cons_succ]
      refine wpAnyH_take (i := 4) (v := ?_) rfl (by kernel_rfl) (by kernel_rfl) (by kernel_rfl) (fun _ _ _ h => h) (Or.inl ⟨by rfl, ?_⟩) (by assumption) ?_
      rotate_left
      (focus (intro w0 hSw; (try dsimp only at hSw); go_simp <;> with_reducible rfl))
      simp only [List.getElem_toArray, List.getElem_cons_succ, List.getElem_cons_zero, Act.put, List.setIfInBounds_toArray, List.set_cons_zero, List.set_cons_succ]
      refine wpAnyH_take (i := 7) (v := ?_) rfl (by kernel_rfl) (by kernel_rfl) (by kernel_rfl) (fun _ _ _ h => h) (Or.inl ⟨by rfl, ?_⟩) (by assumption) ?_
      rotate_left
      (focus (intro w0 hSw; (try dsimp only at hSw); go_simp <;> with_reducible rfl))
      simp only [List.getElem_toArray, List.getElem_cons_succ, List.getElem_cons_zero, Act.put, List.setIfInBounds_toArray, List.set_cons_zero, List.set_cons_succ]
      refine wpAnyH_take (i := 8) (v := ?_) rfl (by kernel_rfl) (by kernel_rfl) (by kernel_rfl) (fun _ _ _ h => h) (Or.inl ⟨by rfl, ?_⟩) (by assumption) ?_
      rotate_left
      (focus (intro w0 hSw; (try dsimp only at hSw); go_simp <;> with_reducible rfl))
      simp only [List.getElem_toArray, List.getElem_cons_succ, List.getElem_cons_zero, Act.put, List.setIfInBounds_toArray, List.set_cons_zero, List.set_cons_succ]
      refine wpAnyH_take (i := 9) (v := ?_) rfl (by kernel_rfl) (by kernel_rfl) (by kernel_rfl) (fun _ _ _ h => h) (Or.inl ⟨by rfl, ?_⟩) (by assumption) ?_
      rotate_left
      (focus (intro w0 hSw; (try dsimp only at hSw); go_simp <;> with_reducible rfl))
      simp only [List.getElem_toArray, List.getElem_cons_succ, List.getElem_cons_zero, Act.put, List.setIfInBounds_toArray, List.set_cons_zero, List.set_cons_succ]
      refine (show wpAnyH _ _ _ _ _ (6 + 1) _ _ _ from wpAnyH_flow (fun j v w => match j with | 5 => L2 a0 k0 c0 X0 a2 k2 c2 X2 v w | 6 => Iv (lstF n (pick2 k0 k2) (pick2 X0 X2) 2) v w | 10 => L1 a1 k1 c1 X1 v w | 11 => Iv (lstF k (pick1 k1) (pick1 X1) 1) v w | 12 => E2 (lstF n (pick2 k0 k2) (pick2 X0 X2) 2) (lstF k (pick1 k1) (pick1 X1) 1) v w | 13 => Iv er v w | _ => True) [(5, 141), (6, 142), (10, 146), (11, 147), (12, 148), (13, 149)] [5, 6, 10, 11, 12, 13] [14] _ _ _ 1 ?k1 ?k4 ?k2 ?k3 ?k5 ?k6 ?k8)
      case k1 => kernel_rfl
      case k4 => kernel_rfl
      case k2 => exact fun w w' h hb => ⟨kCb hb h.1, kCb hb h.2.1, kCb hb h.2.2⟩
      case k3 =>
        intro j v w w' h hb
        split at h <;> first | exact L2.below h hb | exact L1.below h hb | exact Iv.below h hb | exact E2.below h hb | exact h | trivial
      case k8 => exact hHeld
      case k5 =>
        intro i hi
        simp only [List.mem_cons, List.not_mem_nil, or_false] at hi
        rcases hi with rfl | rfl | rfl | rfl | rfl | rfl
        · refine ⟨_, rfl, fun u w5 hS hb5 hd K hK => ?_⟩
          simp only [fill, List.foldl_cons, List.foldl_nil, Act.put, List.setIfInBounds_toArray, List.set_cons_zero, List.set_cons_succ] at hK ⊢
          go_simp
          exact hK.out _ _ (below_alloc (Below.refl _ _) _) ⟨w5.heap.size, rfl, ll_two (R0.out.below (HB.out.trans (hb5.mono HB.out.size))) (R2.out.below (HB.out.trans (hb5.mono HB.out.size))) ⟨Nat.le_trans N0.out.1 (by decide), (fun j hj => ⟨Nat.le_trans (N0.out.2 j hj).1 (by decide), Nat.le_trans (N0.out.2 j hj).2 (by decide)⟩)⟩ ⟨Nat.le_trans N2.out.1 (by decide), (fun j hj => ⟨Nat.le_trans (N2.out.2 j hj).1 (by decide), Nat.le_trans (N2.out.2 j hj).2 (by decide)⟩)⟩⟩
        · refine ⟨_, rfl, fun u w5 hS hb5 hd K hK => ?_⟩
          have hd1 : L2 a0 k0 c0 X0 a2 k2 c2 X2 (u 5) w5 := hd 5 (by kernel_rfl) (by kernel_rfl)
          obtain ⟨gb, e1, hll⟩ := hd1
          simp only [fill, List.foldl_cons, List.foldl_nil, Act.put, List.setIfInBounds_toArray, List.set_cons_zero, List.set_cons_succ] at hK ⊢
          simp only [e1] at hK ⊢
          go_simp
          go_at_call 15
          refine (lists_c hll (by decide)).mono ?_
          rintro e w6 ⟨rfl, hb6⟩
          (try go_wp2_with fail)
          exact hK.out _ _ hb6 rfl
        · refine ⟨_, rfl, fun u w5 hS hb5 hd K hK => ?_⟩
          simp only [fill, List.foldl_cons, List.foldl_nil, Act.put, List.setIfInBounds_toArray, List.set_cons_zero, List.set_cons_succ] at hK ⊢
          go_simp
          exact hK.out _ _ (below_alloc (Below.refl _ _) _) ⟨w5.heap.size, rfl, ll_one (R1.out.below (HB.out.trans (hb5.mono HB.out.size))) ⟨Nat.le_trans N1.out.1 (by decide), (fun j hj => ⟨Nat.le_trans (N1.out.2 j hj).1 (by decide), Nat.le_trans (N1.out.2 j hj).2 (by decide)⟩)⟩⟩
        · refine ⟨_, rfl, fun u w5 hS hb5 hd K hK => ?_⟩
          have hd1 : L1 a1 k1 c1 X1 (u 10) w5 := hd 10 (by kernel_rfl) (by kernel_rfl)
          obtain ⟨gb, e1, hll⟩ := hd1
          simp only [fill, List.foldl_cons, List.foldl_nil, Act.put, List.setIfInBounds_toArray, List.set_cons_zero, List.set_cons_succ] at hK ⊢
          simp only [e1] at hK ⊢
          go_simp
          go_at_call 15
          refine (lists_c hll (by decide)).mono ?_
          rintro e w6 ⟨rfl, hb6⟩
          (try go_wp2_with fail)
          exact hK.out _ _ hb6 rfl
        · refine ⟨_, rfl, fun u w5 hS hb5 hd K hK => ?_⟩
          have hd1 : Iv (lstF n (pick2 k0 k2) (pick2 X0 X2) 2) (u 6) w5 := hd 6 (by kernel_rfl) (by kernel_rfl)
          have hd2 : Iv (lstF k (pick1 k1) (pick1 X1) 1) (u 11) w5 := hd 11 (by kernel_rfl) (by kernel_rfl)
          unfold Iv at hd1 hd2
          simp only [fill, List.foldl_cons, List.foldl_nil, Act.put, List.setIfInBounds_toArray, List.set_cons_zero, List.set_cons_succ] at hK ⊢
          simp only [hd1, hd2] at hK ⊢
          go_simp
          exact hK.out _ _ (below_alloc (Below.refl _ _) _) ⟨w5.heap.size, rfl, two_el⟩
        · refine ⟨_, rfl, fun u w5 hS hb5 hd K hK => ?_⟩
          have hd1 : E2 (lstF n (pick2 k0 k2) (pick2 X0 X2) 2) (lstF k (pick1 k1) (pick1 X1) 1) (u 12) w5 := hd 12 (by kernel_rfl) (by kernel_rfl)
          obtain ⟨gb, e1, hel⟩ := hd1
          simp only [fill, List.foldl_cons, List.foldl_nil, Act.put, List.setIfInBounds_toArray, List.set_cons_zero, List.set_cons_succ] at hK ⊢
          simp only [e1] at hK ⊢
          go_simp
          go_at_call 20
          refine (fLeast_c hel (by decide)).mono ?_
          rintro e w6 ⟨rfl, rfl⟩
          (try go_wp2_with fail)
          exact hK.out _ _ (Below.refl _ _) (by show Value.int _ _ = _; rw [← HEL.out]; rfl)
      case k6 =>
        intro u w5 hS5 hb5 hg
        have h13 : Iv er (u 13) w5 := hg 13 (by simp)
        unfold Iv at h13
        replace HB := hid (HB.out.trans (hb5.mono HB.out.size)); replace H1 := hid (H1.out.below hb5); replace H2 := hid (H2.out.below hb5); replace HS := hid (HS.out.below hb5); replace HD := hid (HD.out.below hb5)
        replace SCase := hid (fun (h0 : er = 0) => show y0 = k0 ∧ y1 = k1 ∧ y2 = k2 ∧ P3v k0 Y0 k1 Y1 k2 Y2 (.agg #[.slice p0 y0 q0, .slice p1 y1 q1, .slice p2 y2 q2]) w5 from by obtain ⟨h1, h2, h3, h4⟩ := SCase.out h0; exact ⟨h1, h2, h3, h4.below hb5⟩)
        clear hg
        simp only [fill, List.foldl_cons, List.foldl_nil, Act.put, List.setIfInBounds_toArray, List.set_cons_zero, List.set_cons_succ]
        simp only [h13]
        clear h13
        refine wpAnyH_take (i := 14) (v := ?_) rfl (by kernel_rfl) (by kernel_rfl) (by kernel_rfl) (fun _ _ _ h => h) (Or.inl ⟨by rfl, ?_⟩) (by assumption) ?_
        rotate_left
        (focus (intro w0 hSw; (try dsimp only at hSw); go_simp <;> with_reducible rfl))
        simp only [List.getElem_toArray, List.getElem_cons_succ, List.getElem_cons_zero, Act.put, List.setIfInBounds_toArray, List.set_cons_zero, List.set_cons_succ]
        refine wpAnyH_done (by kernel_rfl) ?_ _
        clear hS5 hHeld hb5 HEL
        go_upto_region 16 with fail
        go_cut [172] from 150 to 172 (fun u wx => ∃ (wz : World), wz = wx ∧ u = .bool false ∧ Below w5.heap.size w5 wz)
        case first =>
          have e0 : (er != er) = false := by simp
          have l0' := HD.out.cell (j := 0) rfl
          have l1' := HD.out.cell (j := 1) rfl
          have l2' := HD.out.cell (j := 2) rfl
          have r0 := H1.out.cell (j := 0) rfl
          have r1 := H1.out.cell (j := 1) rfl
          have r2 := H1.out.cell (j := 2) rfl
          by_cases h0 : er = 0
          · subst h0
            obtain ⟨rfl, rfl, rfl, hp3⟩ := SCase.out rfl
            have HP := hid hp3
            clear hp3
            go_wp2_with fail
            refine (p3_same (R0.out.below HB.out) (R1.out.below HB.out) (R2.out.below HB.out) T0.out.2 T1.out.2 T2.out.2 N0.out N1.out N2.out (ptE_zero HER.out.symm) HP.out).mono ?_
            rintro e we ⟨rfl, hbe⟩
            go_wp2_with fail
            go_meet
            exact ⟨_, rfl, rfl, hbe⟩
          · have e1 : (er == 0) = false := by simpa using h0
            have e2 : (er != 0) = true := by simpa using h0
            obtain ⟨rfl, rfl, rfl⟩ := SZero.out h0
            go_wp2_with fail
            refine (samePt_c (rf_nil 0 _ _) (rf_nil 0 _ _) rfl (by decide) (rf_nil 0 _ _) (rf_nil 0 _ _) rfl (by decide) (rf_nil 0 _ _) (rf_nil 0 _ _) rfl (by decide) (by decide) (by decide)).mono ?_
            rintro e we ⟨rfl, hbe⟩
            go_wp2_with fail
            go_meet
            exact ⟨_, rfl, rfl, hbe⟩
        case rest =>
          obtain ⟨we3, rfl, rfl, hbe⟩ := hcut
          replace HB := hid (HB.out.trans (hbe.mono HB.out.size)); replace H1 := hid (H1.out.below hbe); replace H2 := hid (H2.out.below hbe); replace HS := hid (HS.out.below hbe); replace HD := hid (HD.out.below hbe)
          clear hbe SCase SZero T0 T1 T2
          obtain ⟨hgA, hgB⟩ := hg3'
          go_upto_region 18 with fail
          go_cut [10, 16] from 173 to 182 (fun s t wx => ∃ (wz : World) (gN : Nat) (f0 : Option Addr) (x0 e0 : Nat) (f1 : Option Addr) (x1 e1 : Nat) (p0 : Option Addr) (y0 q0 : Nat) (p1 : Option Addr) (y1 q1 : Nat) (p2 : Option Addr) (y2 q2 : Nat) (ef : Int), wz = wx ∧ s = .int .i64 ef ∧ t = .pointer (some ⟨gN, 0, none⟩) ∧ Hid (SQ w wz n k l0 F0 l1 F1 k0 X0 k1 X1 k2 X2 a0 c0 a1 c1 a2 c2 b0 d0 b1 d1 gN g3 f0 x0 e0 f1 x1 e1 p0 y0 q0 p1 y1 q1 p2 y2 q2 ef))
          case first =>
            have hbd := Below.drew (Below.refl we3.heap.size we3)
            replace HB := hid (HB.out.trans (hbd.mono HB.out.size)); replace H1 := hid (H1.out.below hbd); replace H2 := hid (H2.out.below hbd); replace HS := hid (HS.out.below hbd); replace HD := hid (HD.out.below hbd)
            clear hbd
            have r0 := H2.out.cell (j := 0) rfl
            have r1 := H2.out.cell (j := 1) rfl
            have r2 := H1.out.cell (j := 0) rfl
            have r3 := H1.out.cell (j := 1) rfl
            have r4 := H1.out.cell (j := 2) rfl
            refine wp_region_held_drew (S := (fun w' => w'.cell? ⟨w.heap.size + 1, 0, none⟩ = some (.slice b0 l0 d0) ∧ w'.cell? ⟨w.heap.size + 1, 1, none⟩ = some (.slice b1 l1 d1) ∧ w'.cell? ⟨w.heap.size, 0, none⟩ = some (.slice a0 k0 c0) ∧ w'.cell? ⟨w.heap.size, 1, none⟩ = some (.slice a1 k1 c1) ∧ w'.cell? ⟨w.heap.size, 2, none⟩ = some (.slice a2 k2 c2))) (by kernel_rfl) ?_ (fun hS => ?_)
            · exact ⟨r0, r1, r2, r3, r4⟩
            generalize we3.drew = wd4 at *
            clear r0 r1 r2 r3 r4
            refine wpAnyH_take (i := 0) (v := ?_) rfl (by kernel_rfl) (by kernel_rfl) (by kernel_rfl) (fun _ _ _ h => h) (Or.inl ⟨by rfl, ?_⟩) (by assumption) ?_
            rotate_left
            (focus (intro w0 hSw; (try dsimp only at hSw); go_simp <;> with_reducible rfl))
            simp only [List.getElem_toArray, List.getElem_cons_zero, Act.put, List.setIfInBounds_toArray, List.set_cons_zero, List.set_cons_succ]
            refine wpAnyH_take (i := 1) (v := ?_) rfl (by kernel_rfl) (by kernel_rfl) (by kernel_rfl) (fun _ _ _ h => h) (Or.inl ⟨by rfl, ?_⟩) (by assumption) ?_
            rotate_left
            (focus (intro w0 hSw; (try dsimp only at hSw); go_simp <;> with_reducible rfl))
            simp only [List.getElem_toArray, List.getElem_cons_succ, List.getElem_cons_zero, Act.put, List.setIfInBounds_toArray, List.set_cons_zero, List.set_cons_succ]
            refine wpAnyH_take (i := 3) (v := ?_) rfl (by kernel_rfl) (by kernel_rfl) (by kernel_rfl) (fun _ _ _ h => h) (Or.inl ⟨by rfl, ?_⟩) (by assumption) ?_
            rotate_left
            (focus (intro w0 hSw; (try dsimp only at hSw); go_simp <;> with_reducible rfl))
            simp only [List.getElem_toArray, List.getElem_cons_succ, List.getElem_cons_zero, Act.put, List.setIfInBounds_toArray, List.set_cons_zero, List.set_cons_succ]
            refine wpAnyH_ready (rs := [2, 10]) (by kernel_rfl) (by simp) ?_
            refine AllReadyH.cons (o := _) rfl (fun K hK => ?_) ?_
            · go_simp
              go_at_call 23
              refine (twBasis_c (G0.out.below HB.out) (G1.out.below HB.out) GN0.out GN1.out (Nat.le_trans hl0 (by decide)) (Nat.le_trans hl1 (by decide))).mono ?_
              rintro e wc0 ⟨v, rfl, hbx, hbv⟩
              obtain ⟨t0, s0, t1, s1, rfl, tf0, tf1⟩ := hbv
              replace HB := hid (HB.out.trans (hbx.mono HB.out.size)); replace H1 := hid (H1.out.below hbx); replace H2 := hid (H2.out.below hbx); replace HS := hid (HS.out.below hbx); replace HD := hid (HD.out.below hbx)
              have TF := hid (⟨tf0.1, tf1.1⟩ : _ ∧ _); have TN0 := hid tf0.2; have TN1 := hid tf1.2
              clear tf0 tf1
              (try go_wp2_with fail)
              refine hK.out _ _ ⟨kCb hbx hS.1, kCb hbx hS.2.1, kCb hbx hS.2.2.1, kCb hbx hS.2.2.2.1, kCb hbx hS.2.2.2.2⟩ (fun hS => ?_)
              clear hK K
              try simp only [Act.put, List.setIfInBounds_toArray, List.set_cons_zero, List.set_cons_succ]
              refine wpAnyH_ready (rs := [4, 10]) (by kernel_rfl) (by simp) ?_
              refine AllReadyH.cons (o := _) rfl (fun K hK => ?_) ?_
              · go_simp
                go_at_call 19
                refine (twPoint_c (R0.out.below HB.out) (R1.out.below HB.out) (R2.out.below HB.out) (Nat.le_trans N0.out.1 (by decide)) (Nat.le_trans N1.out.1 (by decide)) (Nat.le_trans N2.out.1 (by decide)) (fun j hj => ⟨Nat.le_trans (N0.out.2 j hj).1 (by decide), Nat.le_trans (N0.out.2 j hj).2 (by decide)⟩) (fun j hj => ⟨Nat.le_trans (N1.out.2 j hj).1 (by decide), Nat.le_trans (N1.out.2 j hj).2 (by decide)⟩) (fun j hj => ⟨Nat.le_trans (N2.out.2 j hj).1 (by decide), Nat.le_trans (N2.out.2 j hj).2 (by decide)⟩)).mono ?_
                rintro e wc1 ⟨u0, v0, Y0, u1, v1, Y1, u2, v2, Y2, rfl, hbx, _, HT⟩
                replace HB := hid (HB.out.trans (hbx.mono HB.out.size)); replace H1 := hid (H1.out.below hbx); replace H2 := hid (H2.out.below hbx); replace HS := hid (HS.out.below hbx); replace HD := hid (HD.out.below hbx); replace TF := hid (⟨TF.out.1.below hbx, TF.out.2.below hbx⟩ : _ ∧ _)
                have T0 := hid HT.out.1; have T1 := hid HT.out.2.1; have T2 := hid HT.out.2.2
                clear HT
                (try go_wp2_with fail)
                refine hK.out _ _ ⟨kCb hbx hS.1, kCb hbx hS.2.1, kCb hbx hS.2.2.1, kCb hbx hS.2.2.2.1, kCb hbx hS.2.2.2.2⟩ (fun hS => ?_)
                clear hK K
                try simp only [Act.put, List.setIfInBounds_toArray, List.set_cons_zero, List.set_cons_succ]
                refine wpAnyH_ready (rs := [5, 10]) (by kernel_rfl) (by simp) ?_
                refine AllReadyH.cons (o := _) rfl (fun K hK => ?_) ?_
                · go_simp
                  go_at_call 22
                  refine ((sbasis_c HS.out TF.out.1 TF.out.2 TN0.out TN1.out T0.out.1 T1.out.1 T2.out.1 (Nat.le_trans hl0 (by decide)) (Nat.le_trans hl1 (by decide)) (Nat.le_trans N0.out.1 (by decide)) (Nat.le_trans N1.out.1 (by decide)) (Nat.le_trans N2.out.1 (by decide))).mono (fun _ _ h => h.g)).mono ?_
                  rintro e wc2 ⟨f0, x0, e0, f1, x1, e1, p0, y0, q0, p1, y1, q1, p2, y2, q2, ef, rfl, hbx, hef, hba⟩
                  replace HB := hid (HB.out.trans (hbx.mono HB.out.size)); replace H1 := hid (H1.out.below hbx); replace H2 := hid (H2.out.below hbx); replace HS := hid (HS.out.below hbx); replace HD := hid (HD.out.below hbx); replace TF := hid (⟨TF.out.1.below hbx, TF.out.2.below hbx⟩ : _ ∧ _); replace T0 := hid (⟨T0.out.1.below hbx, T0.out.2⟩ : _ ∧ _); replace T1 := hid (⟨T1.out.1.below hbx, T1.out.2⟩ : _ ∧ _); replace T2 := hid (⟨T2.out.1.below hbx, T2.out.2⟩ : _ ∧ _)
                  have hpe : coE n k l0 F0 l1 F1 k0 Y0 k1 Y1 k2 Y2 = coE n k l0 F0 l1 F1 k0 X0 k1 X1 k2 X2 := by
                    unfold coE ptE
                    rw [pnE_sn T0.out.2, pnE_sn T1.out.2, pnE_sn T2.out.2]
                  rw [hpe] at hef
                  have BA : Hid (BasR ef l0 F0 l1 F1 k0 X0 k1 X1 k2 X2 x0 x1 y0 y1 y2 f0 e0 f1 e1 p0 q0 p1 q1 p2 q2 wc2) := by
                    rcases hba with h | ⟨h1, h2, h3, h4, h5, h6, h7, h8⟩
                    · exact .inl h
                    · exact .inr ⟨h1, h2, h3, h4, h5, h6, h7, h8.tr T0.out.2 T1.out.2 T2.out.2⟩
                  have HEF := hid hef
                  clear hpe hef hba
                  (try go_wp2_with fail)
                  refine hK.out _ _ ⟨kCb hbx hS.1, kCb hbx hS.2.1, kCb hbx hS.2.2.1, kCb hbx hS.2.2.2.1, kCb hbx hS.2.2.2.2⟩ (fun hS => ?_)
                  clear hK K
                  try simp only [Act.put, List.setIfInBounds_toArray, List.set_cons_zero, List.set_cons_succ]
                  refine wpAnyH_take (i := 6) (v := ?_) rfl (by kernel_rfl) (by kernel_rfl) (by kernel_rfl) (fun _ _ _ h => h) (Or.inl ⟨by rfl, ?_⟩) (by assumption) ?_
                  rotate_left
                  (focus (intro w0 hSw; (try dsimp only at hSw); go_simp <;> with_reducible rfl))
                  simp only [List.getElem_toArray, List.getElem_cons_succ, List.getElem_cons_zero, Act.put, List.setIfInBounds_toArray, List.set_cons_zero, List.set_cons_succ]
                  refine wpAnyH_take (i := 7) (v := ?_) rfl (by kernel_rfl) (by kernel_rfl) (by kernel_rfl) (fun _ _ _ h => h) (Or.inl ⟨by rfl, ?_⟩) (by assumption) ?_
                  rotate_left
                  (focus (intro w0 hSw; (try dsimp only at hSw); go_simp <;> with_reducible rfl))
                  simp only [List.getElem_toArray, List.getElem_cons_succ, List.getElem_cons_zero, Act.put, List.setIfInBounds_toArray, List.set_cons_zero, List.set_cons_succ]
                  refine wpAnyH_take (i := 8) (v := ?_) rfl (by kernel_rfl) (by kernel_rfl) (by kernel_rfl) (fun _ _ _ h => h) (Or.inl ⟨by rfl, ?_⟩) (by assumption) ?_
                  rotate_left
                  (focus (intro w0 hSw; (try dsimp only at hSw); go_simp <;> with_reducible rfl))
                  simp only [List.getElem_toArray, List.getElem_cons_succ, List.getElem_cons_zero, Act.put, List.setIfInBounds_toArray, List.set_cons_zero, List.set_cons_succ]
                  refine wpAnyH_take (i := 9) (v := ?_) rfl (by kernel_rfl) (by kernel_rfl) (by kernel_rfl) (fun _ _ _ h => h) (Or.inl ⟨by rfl, ?_⟩) (by assumption) ?_
                  rotate_left
                  (focus (intro w0 hSw; (try dsimp only at hSw); go_simp <;> with_reducible rfl))
                  simp only [List.getElem_toArray, List.getElem_cons_succ, List.getElem_cons_zero, Act.put, List.setIfInBounds_toArray, List.set_cons_zero, List.set_cons_succ]
                  refine wpAnyH_ready (rs := [10]) (by kernel_rfl) (by simp) ?_
                  refine AllReadyH.cons (o := _) rfl (fun K hK => ?_) ?_
                  rotate_left
                  exact AllReadyH.nil
                  go_simp
                  have hn := below_alloc (Below.refl wc2.heap.size wc2) (.cells #[.slice none 0 0, .slice none 0 0] 35)
                  have hl3 := HD.out.lt
                  obtain ⟨gN, hgN⟩ : ∃ z, wc2.heap.size = z := ⟨_, rfl⟩
                  have hgl : g3 < gN := by omega
                  have NB := hid (show Bk (wc2.alloc (.cells #[.slice none 0 0, .slice none 0 0] 35)) gN [.slice none 0 0, .slice none 0 0] 35 from hgN ▸ bk_new wc2 [.slice none 0 0, .slice none 0 0] 35)
                  obtain ⟨wn, hwn⟩ : ∃ z, wc2.alloc (.cells #[.slice none 0 0, .slice none 0 0] 35) = z := ⟨_, rfl⟩
                  rw [hgN, hwn]
                  rw [hwn] at NB hn
                  replace HB := hid (HB.out.trans (hn.mono HB.out.size)); replace H1 := hid (H1.out.below hn); replace H2 := hid (H2.out.below hn); replace HS := hid (HS.out.below hn); replace HD := hid (HD.out.below hn); replace TF := hid (⟨TF.out.1.below hn, TF.out.2.below hn⟩ : _ ∧ _); replace T0 := hid (⟨T0.out.1.below hn, T0.out.2⟩ : _ ∧ _); replace T1 := hid (⟨T1.out.1.below hn, T1.out.2⟩ : _ ∧ _); replace T2 := hid (⟨T2.out.1.below hn, T2.out.2⟩ : _ ∧ _); replace BA := hid (BA.out.below hn)
                  refine hK.out _ _ ⟨kCb hn hS.1, kCb hn hS.2.1, kCb hn hS.2.2.1, kCb hn hS.2.2.2.1, kCb hn hS.2.2.2.2⟩ (fun hS => ?_)
                  clear hK K hgN hwn hl3
                  try simp only [Act.put, List.setIfInBounds_toArray, List.set_cons_zero, List.set_cons_succ]
                  refine wpAnyH_ready (rs := [11]) (by kernel_rfl) (by simp) ?_
                  refine AllReadyH.cons (o := _) rfl (fun K hK => ?_) ?_
                  rotate_left
                  exact AllReadyH.nil
                  have ze0 := NB.out.cell (j := 0) rfl
                  have ze1 := NB.out.cell (j := 1) rfl
                  have ff := NB.out.frozen
                  go_simp
                  obtain ⟨hx1, hx2, hx3⟩ := st_new [.slice f0 x0 e0, .slice f1 x1 e1] NB.out (nou_list (fun u hu q => by simp at hu; first | (subst hu; simp) | (rcases hu with rfl | rfl <;> simp) | (rcases hu with rfl | rfl | rfl <;> simp))) HB.out (by omega)
                  have hni := bk_noi NB.out (fun v hv => by simp at hv; first | (subst hv; exact ⟨_, _, _, rfl⟩) | (rcases hv with rfl | rfl | rfl <;> exact ⟨_, _, _, rfl⟩))
                  have hnb := bk_nob NB.out (fun v hv => by simp at hv; first | (subst hv; exact ⟨_, _, _, rfl⟩) | (rcases hv with rfl | rfl | rfl <;> exact ⟨_, _, _, rfl⟩))
                  have B9 := stl_bk [.slice f0 x0 e0, .slice f1 x1 e1] _ 0 _ rfl NB.out
                  obtain ⟨wg, hwwg⟩ : ∃ x, stl gN 0 [.slice f0 x0 e0, .slice f1 x1 e1] wn = x := ⟨_, rfl⟩
                  rw [show ((wn.setCell ⟨gN, 0, none⟩ (.slice f0 x0 e0)).setCell ⟨gN, 1, none⟩ (.slice f1 x1 e1)) = wg from hwwg]
                  rw [hwwg] at hx1 hx2 hx3 B9
                  replace B9 : Bk wg gN [.slice f0 x0 e0, .slice f1 x1 e1] _ := B9
                  replace HB := hid hx1; replace H1 := hid (H1.out.of (hx3 _ (by omega))); replace H2 := hid (H2.out.of (hx3 _ (by omega))); replace HD := hid (HD.out.of (hx3 _ (by omega))); replace BA := hid (BA.out.st hx2 hx3 hnb hni); have NN := hid B9
                  have rr0 := H2.out.cell (j := 0) rfl
                  have rr1 := H2.out.cell (j := 1) rfl
                  have rr2 := H1.out.cell (j := 0) rfl
                  have rr3 := H1.out.cell (j := 1) rfl
                  have rr4 := H1.out.cell (j := 2) rfl
                  clear hwwg ff ze0 ze1 hx1 hx2 hx3 hni hnb B9 NB
                  refine hK.out _ _ ⟨rr0, rr1, rr2, rr3, rr4⟩ (fun hS => ?_)
                  clear hK K
                  try simp only [Act.put]
                  clear rr0 rr1 rr2 rr3 rr4
                  refine wpAnyH_ready (rs := [12]) (by kernel_rfl) (by simp) ?_
                  refine AllReadyH.cons (o := _) rfl (fun K hK => ?_) ?_
                  rotate_left
                  exact AllReadyH.nil
                  have ze0 := HD.out.cell (j := 0) rfl
                  have ze1 := HD.out.cell (j := 1) rfl
                  have ze2 := HD.out.cell (j := 2) rfl
                  have ff := HD.out.frozen
                  go_simp
                  obtain ⟨hx1, hx2, hx3⟩ := st_new [.slice p0 y0 q0, .slice p1 y1 q1, .slice p2 y2 q2] HD.out (nou_list (fun u hu q => by simp at hu; first | (subst hu; simp) | (rcases hu with rfl | rfl <;> simp) | (rcases hu with rfl | rfl | rfl <;> simp))) HB.out (by omega)
                  have hni := bk_noi HD.out (fun v hv => by simp at hv; first | (subst hv; exact ⟨_, _, _, rfl⟩) | (rcases hv with rfl | rfl | rfl <;> exact ⟨_, _, _, rfl⟩))
                  have hnb := bk_nob HD.out (fun v hv => by simp at hv; first | (subst hv; exact ⟨_, _, _, rfl⟩) | (rcases hv with rfl | rfl | rfl <;> exact ⟨_, _, _, rfl⟩))
                  have B9 := stl_bk [.slice p0 y0 q0, .slice p1 y1 q1, .slice p2 y2 q2] _ 0 _ rfl HD.out
                  obtain ⟨wh, hwwh⟩ : ∃ x, stl g3 0 [.slice p0 y0 q0, .slice p1 y1 q1, .slice p2 y2 q2] wg = x := ⟨_, rfl⟩
                  rw [show (((wg.setCell ⟨g3, 0, none⟩ (.slice p0 y0 q0)).setCell ⟨g3, 1, none⟩ (.slice p1 y1 q1)).setCell ⟨g3, 2, none⟩ (.slice p2 y2 q2)) = wh from hwwh]
                  rw [hwwh] at hx1 hx2 hx3 B9
                  replace B9 : Bk wh g3 [.slice p0 y0 q0, .slice p1 y1 q1, .slice p2 y2 q2] _ := B9
                  replace HB := hid hx1; replace H1 := hid (H1.out.of (hx3 _ (by omega))); replace H2 := hid (H2.out.of (hx3 _ (by omega))); replace NN := hid (NN.out.of (hx3 _ (by omega))); replace BA := hid (BA.out.st hx2 hx3 hnb hni); have ND := hid B9
                  have rr0 := H2.out.cell (j := 0) rfl
                  have rr1 := H2.out.cell (j := 1) rfl
                  have rr2 := H1.out.cell (j := 0) rfl
                  have rr3 := H1.out.cell (j := 1) rfl
                  have rr4 := H1.out.cell (j := 2) rfl
                  clear hwwh ff ze0 ze1 ze2 hx1 hx2 hx3 hni hnb B9
                  refine hK.out _ _ ⟨rr0, rr1, rr2, rr3, rr4⟩ (fun hS => ?_)
                  clear hK K
                  try simp only [Act.put]
                  clear rr0 rr1 rr2 rr3 rr4
                  refine wpAnyH_take (i := 13) (v := ?_) rfl (by kernel_rfl) (by kernel_rfl) (by kernel_rfl) (fun _ _ _ h => h) (Or.inl ⟨by rfl, ?_⟩) (by assumption) ?_
                  rotate_left
                  (focus (intro w0 hSw; (try dsimp only at hSw); go_simp <;> with_reducible rfl))
                  simp only [List.getElem_toArray, List.getElem_cons_succ, List.getElem_cons_zero, Act.put, List.setIfInBounds_toArray, List.set_cons_zero, List.set_cons_succ]
                  refine wpAnyH_done (by kernel_rfl) ?_ _
                  (try go_wp2_with fail)
                  go_meet
                  exact ⟨_, gN, f0, x0, e0, f1, x1, e1, p0, y0, q0, p1, y1, q1, p2, y2, q2, ef, rfl, rfl, rfl, ⟨HB.out, H1.out, H2.out, NN.out, ND.out, HEF.out, BA.out⟩⟩
                refine AllReadyH.cons (o := _) rfl (fun K hK => ?_) ?_
                · go_simp
                  have hn := below_alloc (Below.refl wc1.heap.size wc1) (.cells #[.slice none 0 0, .slice none 0 0] 35)
                  have hl3 := HD.out.lt
                  obtain ⟨gN, hgN⟩ : ∃ z, wc1.heap.size = z := ⟨_, rfl⟩
                  have hgl : g3 < gN := by omega
                  have NB := hid (show Bk (wc1.alloc (.cells #[.slice none 0 0, .slice none 0 0] 35)) gN [.slice none 0 0, .slice none 0 0] 35 from hgN ▸ bk_new wc1 [.slice none 0 0, .slice none 0 0] 35)
                  obtain ⟨wn, hwn⟩ : ∃ z, wc1.alloc (.cells #[.slice none 0 0, .slice none 0 0] 35) = z := ⟨_, rfl⟩
                  rw [hgN, hwn]
                  rw [hwn] at NB hn
                  replace HB := hid (HB.out.trans (hn.mono HB.out.size)); replace H1 := hid (H1.out.below hn); replace H2 := hid (H2.out.below hn); replace HS := hid (HS.out.below hn); replace HD := hid (HD.out.below hn); replace TF := hid (⟨TF.out.1.below hn, TF.out.2.below hn⟩ : _ ∧ _); replace T0 := hid (⟨T0.out.1.below hn, T0.out.2⟩ : _ ∧ _); replace T1 := hid (⟨T1.out.1.below hn, T1.out.2⟩ : _ ∧ _); replace T2 := hid (⟨T2.out.1.below hn, T2.out.2⟩ : _ ∧ _)
                  refine hK.out _ _ ⟨kCb hn hS.1, kCb hn hS.2.1, kCb hn hS.2.2.1, kCb hn hS.2.2.2.1, kCb hn hS.2.2.2.2⟩ (fun hS => ?_)
                  clear hK K hgN hwn hl3
                  try simp only [Act.put, List.setIfInBounds_toArray, List.set_cons_zero, List.set_cons_succ]
                  refine wpAnyH_ready (rs := [5]) (by kernel_rfl) (by simp) ?_
                  refine AllReadyH.cons (o := _) rfl (fun K hK => ?_) ?_
                  rotate_left
                  exact AllReadyH.nil
                  go_simp
                  go_at_call 22
                  refine ((sbasis_c HS.out TF.out.1 TF.out.2 TN0.out TN1.out T0.out.1 T1.out.1 T2.out.1 (Nat.le_trans hl0 (by decide)) (Nat.le_trans hl1 (by decide)) (Nat.le_trans N0.out.1 (by decide)) (Nat.le_trans N1.out.1 (by decide)) (Nat.le_trans N2.out.1 (by decide))).mono (fun _ _ h => h.g)).mono ?_
                  rintro e wc2 ⟨f0, x0, e0, f1, x1, e1, p0, y0, q0, p1, y1, q1, p2, y2, q2, ef, rfl, hbx, hef, hba⟩
                  replace HB := hid (HB.out.trans (hbx.mono HB.out.size)); replace H1 := hid (H1.out.below hbx); replace H2 := hid (H2.out.below hbx); replace HS := hid (HS.out.below hbx); replace HD := hid (HD.out.below hbx); replace NB := hid (NB.out.below hbx); replace TF := hid (⟨TF.out.1.below hbx, TF.out.2.below hbx⟩ : _ ∧ _); replace T0 := hid (⟨T0.out.1.below hbx, T0.out.2⟩ : _ ∧ _); replace T1 := hid (⟨T1.out.1.below hbx, T1.out.2⟩ : _ ∧ _); replace T2 := hid (⟨T2.out.1.below hbx, T2.out.2⟩ : _ ∧ _)
                  have hpe : coE n k l0 F0 l1 F1 k0 Y0 k1 Y1 k2 Y2 = coE n k l0 F0 l1 F1 k0 X0 k1 X1 k2 X2 := by
                    unfold coE ptE
                    rw [pnE_sn T0.out.2, pnE_sn T1.out.2, pnE_sn T2.out.2]
                  rw [hpe] at hef
                  have BA : Hid (BasR ef l0 F0 l1 F1 k0 X0 k1 X1 k2 X2 x0 x1 y0 y1 y2 f0 e0 f1 e1 p0 q0 p1 q1 p2 q2 wc2) := by
                    rcases hba with h | ⟨h1, h2, h3, h4, h5, h6, h7, h8⟩
                    · exact .inl h
                    · exact .inr ⟨h1, h2, h3, h4, h5, h6, h7, h8.tr T0.out.2 T1.out.2 T2.out.2⟩
                  have HEF := hid hef
                  clear hpe hef hba
                  (try go_wp2_with fail)
                  refine hK.out _ _ ⟨kCb hbx hS.1, kCb hbx hS.2.1, kCb hbx hS.2.2.1, kCb hbx hS.2.2.2.1, kCb hbx hS.2.2.2.2⟩ (fun hS => ?_)
                  clear hK K
                  try simp only [Act.put, List.setIfInBounds_toArray, List.set_cons_zero, List.set_cons_succ]
                  refine wpAnyH_take (i := 6) (v := ?_) rfl (by kernel_rfl) (by kernel_rfl) (by kernel_rfl) (fun _ _ _ h => h) (Or.inl ⟨by rfl, ?_⟩) (by assumption) ?_
                  rotate_left
                  (focus (intro w0 hSw; (try dsimp only at hSw); go_simp <;> with_reducible rfl))
                  simp only [List.getElem_toArray, List.getElem_cons_succ, List.getElem_cons_zero, Act.put, List.setIfInBounds_toArray, List.set_cons_zero, List.set_cons_succ]
                  refine wpAnyH_take (i := 7) (v := ?_) rfl (by kernel_rfl) (by kernel_rfl) (by kernel_rfl) (fun _ _ _ h => h) (Or.inl ⟨by rfl, ?_⟩) (by assumption) ?_
                  rotate_left
                  (focus (intro w0 hSw; (try dsimp only at hSw); go_simp <;> with_reducible rfl))
                  simp only [List.getElem_toArray, List.getElem_cons_succ, List.getElem_cons_zero, Act.put, List.setIfInBounds_toArray, List.set_cons_zero, List.set_cons_succ]
                  refine wpAnyH_take (i := 8) (v := ?_) rfl (by kernel_rfl) (by kernel_rfl) (by kernel_rfl) (fun _ _ _ h => h) (Or.inl ⟨by rfl, ?_⟩) (by assumption) ?_
                  rotate_left
                  (focus (intro w0 hSw; (try dsimp only at hSw); go_simp <;> with_reducible rfl))
                  simp only [List.getElem_toArray, List.getElem_cons_succ, List.getElem_cons_zero, Act.put, List.setIfInBounds_toArray, List.set_cons_zero, List.set_cons_succ]
                  refine wpAnyH_take (i := 9) (v := ?_) rfl (by kernel_rfl) (by kernel_rfl) (by kernel_rfl) (fun _ _ _ h => h) (Or.inl ⟨by rfl, ?_⟩) (by assumption) ?_
                  rotate_left
                  (focus (intro w0 hSw; (try dsimp only at hSw); go_simp <;> with_reducible rfl))
                  simp only [List.getElem_toArray, List.getElem_cons_succ, List.getElem_cons_zero, Act.put, List.setIfInBounds_toArray, List.set_cons_zero, List.set_cons_succ]
                  refine wpAnyH_ready (rs := [11]) (by kernel_rfl) (by simp) ?_
                  refine AllReadyH.cons (o := _) rfl (fun K hK => ?_) ?_
                  rotate_left
                  exact AllReadyH.nil
                  have ze0 := NB.out.cell (j := 0) rfl
                  have ze1 := NB.out.cell (j := 1) rfl
                  have ff := NB.out.frozen
                  go_simp
                  obtain ⟨hx1, hx2, hx3⟩ := st_new [.slice f0 x0 e0, .slice f1 x1 e1] NB.out (nou_list (fun u hu q => by simp at hu; first | (subst hu; simp) | (rcases hu with rfl | rfl <;> simp) | (rcases hu with rfl | rfl | rfl <;> simp))) HB.out (by omega)
                  have hni := bk_noi NB.out (fun v hv => by simp at hv; first | (subst hv; exact ⟨_, _, _, rfl⟩) | (rcases hv with rfl | rfl | rfl <;> exact ⟨_, _, _, rfl⟩))
                  have hnb := bk_nob NB.out (fun v hv => by simp at hv; first | (subst hv; exact ⟨_, _, _, rfl⟩) | (rcases hv with rfl | rfl | rfl <;> exact ⟨_, _, _, rfl⟩))
                  have B9 := stl_bk [.slice f0 x0 e0, .slice f1 x1 e1] _ 0 _ rfl NB.out
                  obtain ⟨wg, hwwg⟩ : ∃ x, stl gN 0 [.slice f0 x0 e0, .slice f1 x1 e1] wc2 = x := ⟨_, rfl⟩
                  rw [show ((wc2.setCell ⟨gN, 0, none⟩ (.slice f0 x0 e0)).setCell ⟨gN, 1, none⟩ (.slice f1 x1 e1)) = wg from hwwg]
                  rw [hwwg] at hx1 hx2 hx3 B9
                  replace B9 : Bk wg gN [.slice f0 x0 e0, .slice f1 x1 e1] _ := B9
                  replace HB := hid hx1; replace H1 := hid (H1.out.of (hx3 _ (by omega))); replace H2 := hid (H2.out.of (hx3 _ (by omega))); replace HD := hid (HD.out.of (hx3 _ (by omega))); replace BA := hid (BA.out.st hx2 hx3 hnb hni); have NN := hid B9
                  have rr0 := H2.out.cell (j := 0) rfl
                  have rr1 := H2.out.cell (j := 1) rfl
                  have rr2 := H1.out.cell (j := 0) rfl
                  have rr3 := H1.out.cell (j := 1) rfl
                  have rr4 := H1.out.cell (j := 2) rfl
                  clear hwwg ff ze0 ze1 hx1 hx2 hx3 hni hnb B9 NB
                  refine hK.out _ _ ⟨rr0, rr1, rr2, rr3, rr4⟩ (fun hS => ?_)
                  clear hK K
                  try simp only [Act.put]
                  clear rr0 rr1 rr2 rr3 rr4
                  refine wpAnyH_ready (rs := [12]) (by kernel_rfl) (by simp) ?_
                  refine AllReadyH.cons (o := _) rfl (fun K hK => ?_) ?_
                  rotate_left
                  exact AllReadyH.nil
                  have ze0 := HD.out.cell (j := 0) rfl
                  have ze1 := HD.out.cell (j := 1) rfl
                  have ze2 := HD.out.cell (j := 2) rfl
                  have ff := HD.out.frozen
                  go_simp
                  obtain ⟨hx1, hx2, hx3⟩ := st_new [.slice p0 y0 q0, .slice p1 y1 q1, .slice p2 y2 q2] HD.out (nou_list (fun u hu q => by simp at hu; first | (subst hu; simp) | (rcases hu with rfl | rfl <;> simp) | (rcases hu with rfl | rfl | rfl <;> simp))) HB.out (by omega)
                  have hni := bk_noi HD.out (fun v hv => by simp at hv; first | (subst hv; exact ⟨_, _, _, rfl⟩) | (rcases hv with rfl | rfl | rfl <;> exact ⟨_, _, _, rfl⟩))
                  have hnb := bk_nob HD.out (fun v hv => by simp at hv; first | (subst hv; exact ⟨_, _, _, rfl⟩) | (rcases hv with rfl | rfl | rfl <;> exact ⟨_, _, _, rfl⟩))
                  have B9 := stl_bk [.slice p0 y0 q0, .slice p1 y1 q1, .slice p2 y2 q2] _ 0 _ rfl HD.out
                  obtain ⟨wh, hwwh⟩ : ∃ x, stl g3 0 [.slice p0 y0 q0, .slice p1 y1 q1, .slice p2 y2 q2] wg = x := ⟨_, rfl⟩
                  rw [show (((wg.setCell ⟨g3, 0, none⟩ (.slice p0 y0 q0)).setCell ⟨g3, 1, none⟩ (.slice p1 y1 q1)).setCell ⟨g3, 2, none⟩ (.slice p2 y2 q2)) = wh from hwwh]
                  rw [hwwh] at hx1 hx2 hx3 B9
                  replace B9 : Bk wh g3 [.slice p0 y0 q0, .slice p1 y1 q1, .slice p2 y2 q2] _ := B9
                  replace HB := hid hx1; replace H1 := hid (H1.out.of (hx3 _ (by omega))); replace H2 := hid (H2.out.of (hx3 _ (by omega))); replace NN := hid (NN.out.of (hx3 _ (by omega))); replace BA := hid (BA.out.st hx2 hx3 hnb hni); have ND := hid B9
                  have rr0 := H2.out.cell (j := 0) rfl
                  have rr1 := H2.out.cell (j := 1) rfl
                  have rr2 := H1.out.cell (j := 0) rfl
                  have rr3 := H1.out.cell (j := 1) rfl
                  have rr4 := H1.out.cell (j := 2) rfl
                  clear hwwh ff ze0 ze1 ze2 hx1 hx2 hx3 hni hnb B9
                  refine hK.out _ _ ⟨rr0, rr1, rr2, rr3, rr4⟩ (fun hS => ?_)
                  clear hK K
                  try simp only [Act.put]
                  clear rr0 rr1 rr2 rr3 rr4
                  refine wpAnyH_take (i := 13) (v := ?_) rfl (by kernel_rfl) (by kernel_rfl) (by kernel_rfl) (fun _ _ _ h => h) (Or.inl ⟨by rfl, ?_⟩) (by assumption) ?_
                  rotate_left
                  (focus (intro w0 hSw; (try dsimp only at hSw); go_simp <;> with_reducible rfl))
                  simp only [List.getElem_toArray, List.getElem_cons_succ, List.getElem_cons_zero, Act.put, List.setIfInBounds_toArray, List.set_cons_zero, List.set_cons_succ]
                  refine wpAnyH_done (by kernel_rfl) ?_ _
                  (try go_wp2_with fail)
                  go_meet
                  exact ⟨_, gN, f0, x0, e0, f1, x1, e1, p0, y0, q0, p1, y1, q1, p2, y2, q2, ef, rfl, rfl, rfl, ⟨HB.out, H1.out, H2.out, NN.out, ND.out, HEF.out, BA.out⟩⟩
                exact AllReadyH.nil
              refine AllReadyH.cons (o := _) rfl (fun K hK => ?_) ?_
              · go_simp
                have hn := below_alloc (Below.refl wc0.heap.size wc0) (.cells #[.slice none 0 0, .slice none 0 0] 35)
                have hl3 := HD.out.lt
                obtain ⟨gN, hgN⟩ : ∃ z, wc0.heap.size = z := ⟨_, rfl⟩
                have hgl : g3 < gN := by omega
                have NB := hid (show Bk (wc0.alloc (.cells #[.slice none 0 0, .slice none 0 0] 35)) gN [.slice none 0 0, .slice none 0 0] 35 from hgN ▸ bk_new wc0 [.slice none 0 0, .slice none 0 0] 35)
                obtain ⟨wn, hwn⟩ : ∃ z, wc0.alloc (.cells #[.slice none 0 0, .slice none 0 0] 35) = z := ⟨_, rfl⟩
                rw [hgN, hwn]
                rw [hwn] at NB hn
                replace HB := hid (HB.out.trans (hn.mono HB.out.size)); replace H1 := hid (H1.out.below hn); replace H2 := hid (H2.out.below hn); replace HS := hid (HS.out.below hn); replace HD := hid (HD.out.below hn); replace TF := hid (⟨TF.out.1.below hn, TF.out.2.below hn⟩ : _ ∧ _)
                refine hK.out _ _ ⟨kCb hn hS.1, kCb hn hS.2.1, kCb hn hS.2.2.1, kCb hn hS.2.2.2.1, kCb hn hS.2.2.2.2⟩ (fun hS => ?_)
                clear hK K hgN hwn hl3
                try simp only [Act.put, List.setIfInBounds_toArray, List.set_cons_zero, List.set_cons_succ]
                refine wpAnyH_ready (rs := [4]) (by kernel_rfl) (by simp) ?_
                refine AllReadyH.cons (o := _) rfl (fun K hK => ?_) ?_
                rotate_left
                exact AllReadyH.nil
                go_simp
                go_at_call 19
                refine (twPoint_c (R0.out.below HB.out) (R1.out.below HB.out) (R2.out.below HB.out) (Nat.le_trans N0.out.1 (by decide)) (Nat.le_trans N1.out.1 (by decide)) (Nat.le_trans N2.out.1 (by decide)) (fun j hj => ⟨Nat.le_trans (N0.out.2 j hj).1 (by decide), Nat.le_trans (N0.out.2 j hj).2 (by decide)⟩) (fun j hj => ⟨Nat.le_trans (N1.out.2 j hj).1 (by decide), Nat.le_trans (N1.out.2 j hj).2 (by decide)⟩) (fun j hj => ⟨Nat.le_trans (N2.out.2 j hj).1 (by decide), Nat.le_trans (N2.out.2 j hj).2 (by decide)⟩)).mono ?_
                rintro e wc1 ⟨u0, v0, Y0, u1, v1, Y1, u2, v2, Y2, rfl, hbx, _, HT⟩
                replace HB := hid (HB.out.trans (hbx.mono HB.out.size)); replace H1 := hid (H1.out.below hbx); replace H2 := hid (H2.out.below hbx); replace HS := hid (HS.out.below hbx); replace HD := hid (HD.out.below hbx); replace NB := hid (NB.out.below hbx); replace TF := hid (⟨TF.out.1.below hbx, TF.out.2.below hbx⟩ : _ ∧ _)
                have T0 := hid HT.out.1; have T1 := hid HT.out.2.1; have T2 := hid HT.out.2.2
                clear HT
                (try go_wp2_with fail)
                refine hK.out _ _ ⟨kCb hbx hS.1, kCb hbx hS.2.1, kCb hbx hS.2.2.1, kCb hbx hS.2.2.2.1, kCb hbx hS.2.2.2.2⟩ (fun hS => ?_)
                clear hK K
                try simp only [Act.put, List.setIfInBounds_toArray, List.set_cons_zero, List.set_cons_succ]
                refine wpAnyH_ready (rs := [5]) (by kernel_rfl) (by simp) ?_
                refine AllReadyH.cons (o := _) rfl (fun K hK => ?_) ?_
                rotate_left
                exact AllReadyH.nil
                go_simp
                go_at_call 22
                refine ((sbasis_c HS.out TF.out.1 TF.out.2 TN0.out TN1.out T0.out.1 T1.out.1 T2.out.1 (Nat.le_trans hl0 (by decide)) (Nat.le_trans hl1 (by decide)) (Nat.le_trans N0.out.1 (by decide)) (Nat.le_trans N1.out.1 (by decide)) (Nat.le_trans N2.out.1 (by decide))).mono (fun _ _ h => h.g)).mono ?_
                rintro e wc2 ⟨f0, x0, e0, f1, x1, e1, p0, y0, q0, p1, y1, q1, p2, y2, q2, ef, rfl, hbx, hef, hba⟩
                replace HB := hid (HB.out.trans (hbx.mono HB.out.size)); replace H1 := hid (H1.out.below hbx); replace H2 := hid (H2.out.below hbx); replace HS := hid (HS.out.below hbx); replace HD := hid (HD.out.below hbx); replace NB := hid (NB.out.below hbx); replace TF := hid (⟨TF.out.1.below hbx, TF.out.2.below hbx⟩ : _ ∧ _); replace T0 := hid (⟨T0.out.1.below hbx, T0.out.2⟩ : _ ∧ _); replace T1 := hid (⟨T1.out.1.below hbx, T1.out.2⟩ : _ ∧ _); replace T2 := hid (⟨T2.out.1.below hbx, T2.out.2⟩ : _ ∧ _)
                have hpe : coE n k l0 F0 l1 F1 k0 Y0 k1 Y1 k2 Y2 = coE n k l0 F0 l1 F1 k0 X0 k1 X1 k2 X2 := by
                  unfold coE ptE
                  rw [pnE_sn T0.out.2, pnE_sn T1.out.2, pnE_sn T2.out.2]
                rw [hpe] at hef
                have BA : Hid (BasR ef l0 F0 l1 F1 k0 X0 k1 X1 k2 X2 x0 x1 y0 y1 y2 f0 e0 f1 e1 p0 q0 p1 q1 p2 q2 wc2) := by
                  rcases hba with h | ⟨h1, h2, h3, h4, h5, h6, h7, h8⟩
                  · exact .inl h
                  · exact .inr ⟨h1, h2, h3, h4, h5, h6, h7, h8.tr T0.out.2 T1.out.2 T2.out.2⟩
                have HEF := hid hef
                clear hpe hef hba
                (try go_wp2_with fail)
                refine hK.out _ _ ⟨kCb hbx hS.1, kCb hbx hS.2.1, kCb hbx hS.2.2.1, kCb hbx hS.2.2.2.1, kCb hbx hS.2.2.2.2⟩ (fun hS => ?_)
                clear hK K
                try simp only [Act.put, List.setIfInBounds_toArray, List.set_cons_zero, List.set_cons_succ]
                refine wpAnyH_take (i := 6) (v := ?_) rfl (by kernel_rfl) (by kernel_rfl) (by kernel_rfl) (fun _ _ _ h => h) (Or.inl ⟨by rfl, ?_⟩) (by assumption) ?_
                rotate_left
                (focus (intro w0 hSw; (try dsimp only at hSw); go_simp <;> with_reducible rfl))
                simp only [List.getElem_toArray, List.getElem_cons_succ, List.getElem_cons_zero, Act.put, List.setIfInBounds_toArray, List.set_cons_zero, List.set_cons_succ]
                refine wpAnyH_take (i := 7) (v := ?_) rfl (by kernel_rfl) (by kernel_rfl) (by kernel_rfl) (fun _ _ _ h => h) (Or.inl ⟨by rfl, ?_⟩) (by assumption) ?_
                rotate_left
                (focus (intro w0 hSw; (try dsimp only at hSw); go_simp <;> with_reducible rfl))
                simp only [List.getElem_toArray, List.getElem_cons_succ, List.getElem_cons_zero, Act.put, List.setIfInBounds_toArray, List.set_cons_zero, List.set_cons_succ]
                refine wpAnyH_take (i := 8) (v := ?_) rfl (by kernel_rfl) (by kernel_rfl) (by kernel_rfl) (fun _ _ _ h => h) (Or.inl ⟨by rfl, ?_⟩) (by assumption) ?_
                rotate_left
                (focus (intro w0 hSw; (try dsimp only at hSw); go_simp <;> with_reducible rfl))
                simp only [List.getElem_toArray, List.getElem_cons_succ, List.getElem_cons_zero, Act.put, List.setIfInBounds_toArray, List.set_cons_zero, List.set_cons_succ]
                refine wpAnyH_take (i := 9) (v := ?_) rfl (by kernel_rfl) (by kernel_rfl) (by kernel_rfl) (fun _ _ _ h => h) (Or.inl ⟨by rfl, ?_⟩) (by assumption) ?_
                rotate_left
                (focus (intro w0 hSw; (try dsimp only at hSw); go_simp <;> with_reducible rfl))
                simp only [List.getElem_toArray, List.getElem_cons_succ, List.getElem_cons_zero, Act.put, List.setIfInBounds_toArray, List.set_cons_zero, List.set_cons_succ]
                refine wpAnyH_ready (rs := [11]) (by kernel_rfl) (by simp) ?_
                refine AllReadyH.cons (o := _) rfl (fun K hK => ?_) ?_
                rotate_left
                exact AllReadyH.nil
                have ze0 := NB.out.cell (j := 0) rfl
                have ze1 := NB.out.cell (j := 1) rfl
                have ff := NB.out.frozen
                go_simp
                obtain ⟨hx1, hx2, hx3⟩ := st_new [.slice f0 x0 e0, .slice f1 x1 e1] NB.out (nou_list (fun u hu q => by simp at hu; first | (subst hu; simp) | (rcases hu with rfl | rfl <;> simp) | (rcases hu with rfl | rfl | rfl <;> simp))) HB.out (by omega)
                have hni := bk_noi NB.out (fun v hv => by simp at hv; first | (subst hv; exact ⟨_, _, _, rfl⟩) | (rcases hv with rfl | rfl | rfl <;> exact ⟨_, _, _, rfl⟩))
                have hnb := bk_nob NB.out (fun v hv => by simp at hv; first | (subst hv; exact ⟨_, _, _, rfl⟩) | (rcases hv with rfl | rfl | rfl <;> exact ⟨_, _, _, rfl⟩))
                have B9 := stl_bk [.slice f0 x0 e0, .slice f1 x1 e1] _ 0 _ rfl NB.out
                obtain ⟨wg, hwwg⟩ : ∃ x, stl gN 0 [.slice f0 x0 e0, .slice f1 x1 e1] wc2 = x := ⟨_, rfl⟩
                rw [show ((wc2.setCell ⟨gN, 0, none⟩ (.slice f0 x0 e0)).setCell ⟨gN, 1, none⟩ (.slice f1 x1 e1)) = wg from hwwg]
                rw [hwwg] at hx1 hx2 hx3 B9
                replace B9 : Bk wg gN [.slice f0 x0 e0, .slice f1 x1 e1] _ := B9
                replace HB := hid hx1; replace H1 := hid (H1.out.of (hx3 _ (by omega))); replace H2 := hid (H2.out.of (hx3 _ (by omega))); replace HD := hid (HD.out.of (hx3 _ (by omega))); replace BA := hid (BA.out.st hx2 hx3 hnb hni); have NN := hid B9
                have rr0 := H2.out.cell (j := 0) rfl
                have rr1 := H2.out.cell (j := 1) rfl
                have rr2 := H1.out.cell (j := 0) rfl
                have rr3 := H1.out.cell (j := 1) rfl
                have rr4 := H1.out.cell (j := 2) rfl
                clear hwwg ff ze0 ze1 hx1 hx2 hx3 hni hnb B9 NB
                refine hK.out _ _ ⟨rr0, rr1, rr2, rr3, rr4⟩ (fun hS => ?_)
                clear hK K
                try simp only [Act.put]
                clear rr0 rr1 rr2 rr3 rr4
                refine wpAnyH_ready (rs := [12]) (by kernel_rfl) (by simp) ?_
                refine AllReadyH.cons (o := _) rfl (fun K hK => ?_) ?_
                rotate_left
                exact AllReadyH.nil
                have ze0 := HD.out.cell (j := 0) rfl
                have ze1 := HD.out.cell (j := 1) rfl
                have ze2 := HD.out.cell (j := 2) rfl
                have ff := HD.out.frozen
                go_simp
                obtain ⟨hx1, hx2, hx3⟩ := st_new [.slice p0 y0 q0, .slice p1 y1 q1, .slice p2 y2 q2] HD.out (nou_list (fun u hu q => by simp at hu; first | (subst hu; simp) | (rcases hu with rfl | rfl <;> simp) | (rcases hu with rfl | rfl | rfl <;> simp))) HB.out (by omega)
                have hni := bk_noi HD.out (fun v hv => by simp at hv; first | (subst hv; exact ⟨_, _, _, rfl⟩) | (rcases hv with rfl | rfl | rfl <;> exact ⟨_, _, _, rfl⟩))
                have hnb := bk_nob HD.out (fun v hv => by simp at hv; first | (subst hv; exact ⟨_, _, _, rfl⟩) | (rcases hv with rfl | rfl | rfl <;> exact ⟨_, _, _, rfl⟩))
                have B9 := stl_bk [.slice p0 y0 q0, .slice p1 y1 q1, .slice p2 y2 q2] _ 0 _ rfl HD.out
                obtain ⟨wh, hwwh⟩ : ∃ x, stl g3 0 [.slice p0 y0 q0, .slice p1 y1 q1, .slice p2 y2 q2] wg = x := ⟨_, rfl⟩
                rw [show (((wg.setCell ⟨g3, 0, none⟩ (.slice p0 y0 q0)).setCell ⟨g3, 1, none⟩ (.slice p1 y1 q1)).setCell ⟨g3, 2, none⟩ (.slice p2 y2 q2)) = wh from hwwh]
                rw [hwwh] at hx1 hx2 hx3 B9
                replace B9 : Bk wh g3 [.slice p0 y0 q0, .slice p1 y1 q1, .slice p2 y2 q2] _ := B9
                replace HB := hid hx1; replace H1 := hid (H1.out.of (hx3 _ (by omega))); replace H2 := hid (H2.out.of (hx3 _ (by omega))); replace NN := hid (NN.out.of (hx3 _ (by omega))); replace BA := hid (BA.out.st hx2 hx3 hnb hni); have ND := hid B9
                have rr0 := H2.out.cell (j := 0) rfl
                have rr1 := H2.out.cell (j := 1) rfl
                have rr2 := H1.out.cell (j := 0) rfl
                have rr3 := H1.out.cell (j := 1) rfl
                have rr4 := H1.out.cell (j := 2) rfl
                clear hwwh ff ze0 ze1 ze2 hx1 hx2 hx3 hni hnb B9
                refine hK.out _ _ ⟨rr0, rr1, rr2, rr3, rr4⟩ (fun hS => ?_)
                clear hK K
                try simp only [Act.put]
                clear rr0 rr1 rr2 rr3 rr4
                refine wpAnyH_take (i := 13) (v := ?_) rfl (by kernel_rfl) (by kernel_rfl) (by kernel_rfl) (fun _ _ _ h => h) (Or.inl ⟨by rfl, ?_⟩) (by assumption) ?_
                rotate_left
                (focus (intro w0 hSw; (try dsimp only at hSw); go_simp <;> with_reducible rfl))
                simp only [List.getElem_toArray, List.getElem_cons_succ, List.getElem_cons_zero, Act.put, List.setIfInBounds_toArray, List.set_cons_zero, List.set_cons_succ]
                refine wpAnyH_done (by kernel_rfl) ?_ _
                (try go_wp2_with fail)
                go_meet
                exact ⟨_, gN, f0, x0, e0, f1, x1, e1, p0, y0, q0, p1, y1, q1, p2, y2, q2, ef, rfl, rfl, rfl, ⟨HB.out, H1.out, H2.out, NN.out, ND.out, HEF.out, BA.out⟩⟩
              exact AllReadyH.nil
            refine AllReadyH.cons (o := _) rfl (fun K hK => ?_) ?_
            · go_simp
              have hn := below_alloc (Below.refl wd4.heap.size wd4) (.cells #[.slice none 0 0, .slice none 0 0] 35)
              have hl3 := HD.out.lt
              obtain ⟨gN, hgN⟩ : ∃ z, wd4.heap.size = z := ⟨_, rfl⟩
              have hgl : g3 < gN := by omega
              have NB := hid (show Bk (wd4.alloc (.cells #[.slice none 0 0, .slice none 0 0] 35)) gN [.slice none 0 0, .slice none 0 0] 35 from hgN ▸ bk_new wd4 [.slice none 0 0, .slice none 0 0] 35)
              obtain ⟨wn, hwn⟩ : ∃ z, wd4.alloc (.cells #[.slice none 0 0, .slice none 0 0] 35) = z := ⟨_, rfl⟩
              rw [hgN, hwn]
              rw [hwn] at NB hn
              replace HB := hid (HB.out.trans (hn.mono HB.out.size)); replace H1 := hid (H1.out.below hn); replace H2 := hid (H2.out.below hn); replace HS := hid (HS.out.below hn); replace HD := hid (HD.out.below hn)
              refine hK.out _ _ ⟨kCb hn hS.1, kCb hn hS.2.1, kCb hn hS.2.2.1, kCb hn hS.2.2.2.1, kCb hn hS.2.2.2.2⟩ (fun hS => ?_)
              clear hK K hgN hwn hl3
              try simp only [Act.put, List.setIfInBounds_toArray, List.set_cons_zero, List.set_cons_succ]
              refine wpAnyH_ready (rs := [2]) (by kernel_rfl) (by simp) ?_
              refine AllReadyH.cons (o := _) rfl (fun K hK => ?_) ?_
              rotate_left
              exact AllReadyH.nil
              go_simp
              go_at_call 23
              refine (twBasis_c (G0.out.below HB.out) (G1.out.below HB.out) GN0.out GN1.out (Nat.le_trans hl0 (by decide)) (Nat.le_trans hl1 (by decide))).mono ?_
              rintro e wc0 ⟨v, rfl, hbx, hbv⟩
              obtain ⟨t0, s0, t1, s1, rfl, tf0, tf1⟩ := hbv
              replace HB := hid (HB.out.trans (hbx.mono HB.out.size)); replace H1 := hid (H1.out.below hbx); replace H2 := hid (H2.out.below hbx); replace HS := hid (HS.out.below hbx); replace HD := hid (HD.out.below hbx); replace NB := hid (NB.out.below hbx)
              have TF := hid (⟨tf0.1, tf1.1⟩ : _ ∧ _); have TN0 := hid tf0.2; have TN1 := hid tf1.2
              clear tf0 tf1
              (try go_wp2_with fail)
              refine hK.out _ _ ⟨kCb hbx hS.1, kCb hbx hS.2.1, kCb hbx hS.2.2.1, kCb hbx hS.2.2.2.1, kCb hbx hS.2.2.2.2⟩ (fun hS => ?_)
              clear hK K
              try simp only [Act.put, List.setIfInBounds_toArray, List.set_cons_zero, List.set_cons_succ]
              refine wpAnyH_ready (rs := [4]) (by kernel_rfl) (by simp) ?_
              refine AllReadyH.cons (o := _) rfl (fun K hK => ?_) ?_
              rotate_left
              exact AllReadyH.nil
              go_simp
              go_at_call 19
              refine (twPoint_c (R0.out.below HB.out) (R1.out.below HB.out) (R2.out.below HB.out) (Nat.le_trans N0.out.1 (by decide)) (Nat.le_trans N1.out.1 (by decide)) (Nat.le_trans N2.out.1 (by decide)) (fun j hj => ⟨Nat.le_trans (N0.out.2 j hj).1 (by decide), Nat.le_trans (N0.out.2 j hj).2 (by decide)⟩) (fun j hj => ⟨Nat.le_trans (N1.out.2 j hj).1 (by decide), Nat.le_trans (N1.out.2 j hj).2 (by decide)⟩) (fun j hj => ⟨Nat.le_trans (N2.out.2 j hj).1 (by decide), Nat.le_trans (N2.out.2 j hj).2 (by decide)⟩)).mono ?_
              rintro e wc1 ⟨u0, v0, Y0, u1, v1, Y1, u2, v2, Y2, rfl, hbx, _, HT⟩
              replace HB := hid (HB.out.trans (hbx.mono HB.out.size)); replace H1 := hid (H1.out.below hbx); replace H2 := hid (H2.out.below hbx); replace HS := hid (HS.out.below hbx); replace HD := hid (HD.out.below hbx); replace NB := hid (NB.out.below hbx); replace TF := hid (⟨TF.out.1.below hbx, TF.out.2.below hbx⟩ : _ ∧ _)
              have T0 := hid HT.out.1; have T1 := hid HT.out.2.1; have T2 := hid HT.out.2.2
              clear HT
              (try go_wp2_with fail)
              refine hK.out _ _ ⟨kCb hbx hS.1, kCb hbx hS.2.1, kCb hbx hS.2.2.1, kCb hbx hS.2.2.2.1, kCb hbx hS.2.2.2.2⟩ (fun hS => ?_)
              clear hK K
              try simp only [Act.put, List.setIfInBounds_toArray, List.set_cons_zero, List.set_cons_succ]
              refine wpAnyH_ready (rs := [5]) (by kernel_rfl) (by simp) ?_
              refine AllReadyH.cons (o := _) rfl (fun K hK => ?_) ?_
              rotate_left
              exact AllReadyH.nil
              go_simp
              go_at_call 22
              refine ((sbasis_c HS.out TF.out.1 TF.out.2 TN0.out TN1.out T0.out.1 T1.out.1 T2.out.1 (Nat.le_trans hl0 (by decide)) (Nat.le_trans hl1 (by decide)) (Nat.le_trans N0.out.1 (by decide)) (Nat.le_trans N1.out.1 (by decide)) (Nat.le_trans N2.out.1 (by decide))).mono (fun _ _ h => h.g)).mono ?_
              rintro e wc2 ⟨f0, x0, e0, f1, x1, e1, p0, y0, q0, p1, y1, q1, p2, y2, q2, ef, rfl, hbx, hef, hba⟩
              replace HB := hid (HB.out.trans (hbx.mono HB.out.size)); replace H1 := hid (H1.out.below hbx); replace H2 := hid (H2.out.below hbx); replace HS := hid (HS.out.below hbx); replace HD := hid (HD.out.below hbx); replace NB := hid (NB.out.below hbx); replace TF := hid (⟨TF.out.1.below hbx, TF.out.2.below hbx⟩ : _ ∧ _); replace T0 := hid (⟨T0.out.1.below hbx, T0.out.2⟩ : _ ∧ _); replace T1 := hid (⟨T1.out.1.below hbx, T1.out.2⟩ : _ ∧ _); replace T2 := hid (⟨T2.out.1.below hbx, T2.out.2⟩ : _ ∧ _)
              have hpe : coE n k l0 F0 l1 F1 k0 Y0 k1 Y1 k2 Y2 = coE n k l0 F0 l1 F1 k0 X0 k1 X1 k2 X2 := by
                unfold coE ptE
                rw [pnE_sn T0.out.2, pnE_sn T1.out.2, pnE_sn T2.out.2]
              rw [hpe] at hef
              have BA : Hid (BasR ef l0 F0 l1 F1 k0 X0 k1 X1 k2 X2 x0 x1 y0 y1 y2 f0 e0 f1 e1 p0 q0 p1 q1 p2 q2 wc2) := by
                rcases hba with h | ⟨h1, h2, h3, h4, h5, h6, h7, h8⟩
                · exact .inl h
                · exact .inr ⟨h1, h2, h3, h4, h5, h6, h7, h8.tr T0.out.2 T1.out.2 T2.out.2⟩
              have HEF := hid hef
              clear hpe hef hba
              (try go_wp2_with fail)
              refine hK.out _ _ ⟨kCb hbx hS.1, kCb hbx hS.2.1, kCb hbx hS.2.2.1, kCb hbx hS.2.2.2.1, kCb hbx hS.2.2.2.2⟩ (fun hS => ?_)
              clear hK K
              try simp only [Act.put, List.setIfInBounds_toArray, List.set_cons_zero, List.set_cons_succ]
              refine wpAnyH_take (i := 6) (v := ?_) rfl (by kernel_rfl) (by kernel_rfl) (by kernel_rfl) (fun _ _ _ h => h) (Or.inl ⟨by rfl, ?_⟩) (by assumption) ?_
              rotate_left
              (focus (intro w0 hSw; (try dsimp only at hSw); go_simp <;> with_reducible rfl))
              simp only [List.getElem_toArray, List.getElem_cons_succ, List.getElem_cons_zero, Act.put, List.setIfInBounds_toArray, List.set_cons_zero, List.set_cons_succ]
              refine wpAnyH_take (i := 7) (v := ?_) rfl (by kernel_rfl) (by kernel_rfl) (by kernel_rfl) (fun _ _ _ h => h) (Or.inl ⟨by rfl, ?_⟩) (by assumption) ?_
              rotate_left
              (focus (intro w0 hSw; (try dsimp only at hSw); go_simp <;> with_reducible rfl))
              simp only [List.getElem_toArray, List.getElem_cons_succ, List.getElem_cons_zero, Act.put, List.setIfInBounds_toArray, List.set_cons_zero, List.set_cons_succ]
              refine wpAnyH_take (i := 8) (v := ?_) rfl (by kernel_rfl) (by kernel_rfl) (by kernel_rfl) (fun _ _ _ h => h) (Or.inl ⟨by rfl, ?_⟩) (by assumption) ?_
              rotate_left
              (focus (intro w0 hSw; (try dsimp only at hSw); go_simp <;> with_reducible rfl))
              simp only [List.getElem_toArray, List.getElem_cons_succ, List.getElem_cons_zero, Act.put, List.setIfInBounds_toArray, List.set_cons_zero, List.set_cons_succ]
              refine wpAnyH_take (i := 9) (v := ?_) rfl (by kernel_rfl) (by kernel_rfl) (by kernel_rfl) (fun _ _ _ h => h) (Or.inl ⟨by rfl, ?_⟩) (by assumption) ?_
              rotate_left
              (focus (intro w0 hSw; (try dsimp only at hSw); go_simp <;> with_reducible rfl))
              simp only [List.getElem_toArray, List.getElem_cons_succ, List.getElem_cons_zero, Act.put, List.setIfInBounds_toArray, List.set_cons_zero, List.set_cons_succ]
              refine wpAnyH_ready (rs := [11]) (by kernel_rfl) (by simp) ?_
              refine AllReadyH.cons (o := _) rfl (fun K hK => ?_) ?_
              rotate_left
              exact AllReadyH.nil
              have ze0 := NB.out.cell (j := 0) rfl
              have ze1 := NB.out.cell (j := 1) rfl
              have ff := NB.out.frozen
              go_simp
              obtain ⟨hx1, hx2, hx3⟩ := st_new [.slice f0 x0 e0, .slice f1 x1 e1] NB.out (nou_list (fun u hu q => by simp at hu; first | (subst hu; simp) | (rcases hu with rfl | rfl <;> simp) | (rcases hu with rfl | rfl | rfl <;> simp))) HB.out (by omega)
              have hni := bk_noi NB.out (fun v hv => by simp at hv; first | (subst hv; exact ⟨_, _, _, rfl⟩) | (rcases hv with rfl | rfl | rfl <;> exact ⟨_, _, _, rfl⟩))
              have hnb := bk_nob NB.out (fun v hv => by simp at hv; first | (subst hv; exact ⟨_, _, _, rfl⟩) | (rcases hv with rfl | rfl | rfl <;> exact ⟨_, _, _, rfl⟩))
              have B9 := stl_bk [.slice f0 x0 e0, .slice f1 x1 e1] _ 0 _ rfl NB.out
              obtain ⟨wg, hwwg⟩ : ∃ x, stl gN 0 [.slice f0 x0 e0, .slice f1 x1 e1] wc2 = x := ⟨_, rfl⟩
              rw [show ((wc2.setCell ⟨gN, 0, none⟩ (.slice f0 x0 e0)).setCell ⟨gN, 1, none⟩ (.slice f1 x1 e1)) = wg from hwwg]
              rw [hwwg] at hx1 hx2 hx3 B9
              replace B9 : Bk wg gN [.slice f0 x0 e0, .slice f1 x1 e1] _ := B9
              replace HB := hid hx1; replace H1 := hid (H1.out.of (hx3 _ (by omega))); replace H2 := hid (H2.out.of (hx3 _ (by omega))); replace HD := hid (HD.out.of (hx3 _ (by omega))); replace BA := hid (BA.out.st hx2 hx3 hnb hni); have NN := hid B9
              have rr0 := H2.out.cell (j := 0) rfl
              have rr1 := H2.out.cell (j := 1) rfl
              have rr2 := H1.out.cell (j := 0) rfl
              have rr3 := H1.out.cell (j := 1) rfl
              have rr4 := H1.out.cell (j := 2) rfl
              clear hwwg ff ze0 ze1 hx1 hx2 hx3 hni hnb B9 NB
              refine hK.out _ _ ⟨rr0, rr1, rr2, rr3, rr4⟩ (fun hS => ?_)
              clear hK K
              try simp only [Act.put]
              clear rr0 rr1 rr2 rr3 rr4
              refine wpAnyH_ready (rs := [12]) (by kernel_rfl) (by simp) ?_
              refine AllReadyH.cons (o := _) rfl (fun K hK => ?_) ?_
              rotate_left
              exact AllReadyH.nil
              have ze0 := HD.out.cell (j := 0) rfl
              have ze1 := HD.out.cell (j := 1) rfl
              have ze2 := HD.out.cell (j := 2) rfl
              have ff := HD.out.frozen
              go_simp
              obtain ⟨hx1, hx2, hx3⟩ := st_new [.slice p0 y0 q0, .slice p1 y1 q1, .slice p2 y2 q2] HD.out (nou_list (fun u hu q => by simp at hu; first | (subst hu; simp) | (rcases hu with rfl | rfl <;> simp) | (rcases hu with rfl | rfl | rfl <;> simp))) HB.out (by omega)
              have hni := bk_noi HD.out (fun v hv => by simp at hv; first | (subst hv; exact ⟨_, _, _, rfl⟩) | (rcases hv with rfl | rfl | rfl <;> exact ⟨_, _, _, rfl⟩))
              have hnb := bk_nob HD.out (fun v hv => by simp at hv; first | (subst hv; exact ⟨_, _, _, rfl⟩) | (rcases hv with rfl | rfl | rfl <;> exact ⟨_, _, _, rfl⟩))
              have B9 := stl_bk [.slice p0 y0 q0, .slice p1 y1 q1, .slice p2 y2 q2] _ 0 _ rfl HD.out
              obtain ⟨wh, hwwh⟩ : ∃ x, stl g3 0 [.slice p0 y0 q0, .slice p1 y1 q1, .slice p2 y2 q2] wg = x := ⟨_, rfl⟩
              rw [show (((wg.setCell ⟨g3, 0, none⟩ (.slice p0 y0 q0)).setCell ⟨g3, 1, none⟩ (.slice p1 y1 q1)).setCell ⟨g3, 2, none⟩ (.slice p2 y2 q2)) = wh from hwwh]
              rw [hwwh] at hx1 hx2 hx3 B9
              replace B9 : Bk wh g3 [.slice p0 y0 q0, .slice p1 y1 q1, .slice p2 y2 q2] _ := B9
              replace HB := hid hx1; replace H1 := hid (H1.out.of (hx3 _ (by omega))); replace H2 := hid (H2.out.of (hx3 _ (by omega))); replace NN := hid (NN.out.of (hx3 _ (by omega))); replace BA := hid (BA.out.st hx2 hx3 hnb hni); have ND := hid B9
              have rr0 := H2.out.cell (j := 0) rfl
              have rr1 := H2.out.cell (j := 1) rfl
              have rr2 := H1.out.cell (j := 0) rfl
              have rr3 := H1.out.cell (j := 1) rfl
              have rr4 := H1.out.cell (j := 2) rfl
              clear hwwh ff ze0 ze1 ze2 hx1 hx2 hx3 hni hnb B9
              refine hK.out _ _ ⟨rr0, rr1, rr2, rr3, rr4⟩ (fun hS => ?_)
              clear hK K
              try simp only [Act.put]
              clear rr0 rr1 rr2 rr3 rr4
              refine wpAnyH_take (i := 13) (v := ?_) rfl (by kernel_rfl) (by kernel_rfl) (by kernel_rfl) (fun _ _ _ h => h) (Or.inl ⟨by rfl, ?_⟩) (by assumption) ?_
              rotate_left
              (focus (intro w0 hSw; (try dsimp only at hSw); go_simp <;> with_reducible rfl))
              simp only [List.getElem_toArray, List.getElem_cons_succ, List.getElem_cons_zero, Act.put, List.setIfInBounds_toArray, List.set_cons_zero, List.set_cons_succ]
              refine wpAnyH_done (by kernel_rfl) ?_ _
              (try go_wp2_with fail)
              go_meet
              exact ⟨_, gN, f0, x0, e0, f1, x1, e1, p0, y0, q0, p1, y1, q1, p2, y2, q2, ef, rfl, rfl, rfl, ⟨HB.out, H1.out, H2.out, NN.out, ND.out, HEF.out, BA.out⟩⟩
            exact AllReadyH.nil
          case rest =>
            obtain ⟨wz, gN, f0, x0, e0, f1, x1, e1, p0, y0, q0, p1, y1, q1, p2, y2, q2, ef, rfl, rfl, rfl, HQ⟩ := hcut
            clear HB H1 H2 HS HD
            have HB := hid HQ.out.bel; have H1 := hid HQ.out.h1; have H2 := hid HQ.out.h2; have NN := hid HQ.out.hb; have ND := hid HQ.out.hd; have BA := hid HQ.out.bas; have HEF := hid HQ.out.er
            clear HQ
            go_upto_region 19 with fail
            have hbd := Below.drew (Below.refl wz.heap.size wz)
            replace HB := hid (HB.out.trans (hbd.mono HB.out.size)); replace H1 := hid (H1.out.below hbd); replace H2 := hid (H2.out.below hbd); replace NN := hid (NN.out.below hbd); replace ND := hid (ND.out.below hbd); replace BA := hid (BA.out.below hbd)
            clear hbd
            have r0 := H2.out.cell (j := 0) rfl
            have r1 := H2.out.cell (j := 1) rfl
            refine wp_region_held_drew (S := (fun w' => w'.cell? ⟨w.heap.size + 1, 0, none⟩ = some (.slice b0 l0 d0) ∧ w'.cell? ⟨w.heap.size + 1, 1, none⟩ = some (.slice b1 l1 d1))) (by kernel_rfl) ?_ (fun hHeld => ?_)
            · exact ⟨r0, r1⟩
            generalize wz.drew = wd5 at *
            clear r0 r1
            have HEL := hid (co_lists (n := n) (k := k) (l0 := l0) (l1 := l1) (F0 := F0) (F1 := F1) (k0 := k0) (k1 := k1) (k2 := k2) (X0 := X0) (X1 := X1) (X2 := X2))
            replace HEL : Hid (lsf (tri er (stE l0 F0 n) (stE l1 F1 k)) 3 = ef) := by
              have h1 := HEL.out
              rw [← HER.out, ← HEF.out] at h1
              exact h1
            refine wpAnyH_take (i := 0) (v := ?_) rfl (by kernel_rfl) (by kernel_rfl) (by kernel_rfl) (fun _ _ _ h => h) (Or.inl ⟨by rfl, ?_⟩) (by assumption) ?_
            rotate_left
            (focus (intro w0 hSw; (try dsimp only at hSw); go_simp <;> with_reducible rfl))
            simp only [List.getElem_toArray, List.getElem_cons_zero, Act.put, List.setIfInBounds_toArray, List.set_cons_zero, List.set_cons_succ]
            refine wpAnyH_take (i := 1) (v := ?_) rfl (by kernel_rfl) (by kernel_rfl) (by kernel_rfl) (fun _ _ _ h => h) (Or.inl ⟨by rfl, ?_⟩) (by assumption) ?_
            rotate_left
            (focus (intro w0 hSw; (try dsimp only at hSw); go_simp <;> with_reducible rfl))
            simp only [List.getElem_toArray, List.getElem_cons_succ, List.getElem_cons_zero, Act.put, List.setIfInBounds_toArray, List.set_cons_zero, List.set_cons_succ]
            refine wpAnyH_take (i := 2) (v := ?_) rfl (by kernel_rfl) (by kernel_rfl) (by kernel_rfl) (fun _ _ _ h => h) (Or.inl ⟨by rfl, ?_⟩) (by assumption) ?_
            rotate_left
            (focus (intro w0 hSw; (try dsimp only at hSw); go_simp <;> with_reducible rfl))
            simp only [List.getElem_toArray, List.getElem_cons_succ, List.getElem_cons_zero, Act.put, List.setIfInBounds_toArray, List.set_cons_zero, List.set_cons_succ]
            refine wpAnyH_take (i := 3) (v := ?_) rfl (by kernel_rfl) (by kernel_rfl) (by kernel_rfl) (fun _ _ _ h => h) (Or.inl ⟨by rfl, ?_⟩) (by assumption) ?_
            rotate_left
            (focus (intro w0 hSw; (try dsimp only at hSw); go_simp <;> with_reducible rfl))
            simp only [List.getElem_toArray, List.getElem_cons_succ, List.getElem_cons_zero, Act.put, List.setIfInBounds_toArray, List.set_cons_zero, List.set_cons_succ]
            refine wpAnyH_take (i := 5) (v := ?_) rfl (by kernel_rfl) (by kernel_rfl) (by kernel_rfl) (fun _ _ _ h => h) (Or.inl ⟨by rfl, ?_⟩) (by assumption) ?_
            rotate_left
            (focus (intro w0 hSw; (try dsimp only at hSw); go_simp <;> with_reducible rfl))
            simp only [List.getElem_toArray, List.getElem_cons_succ, List.getElem_cons_zero, Act.put, List.setIfInBounds_toArray, List.set_cons_zero, List.set_cons_succ]
            refine wpAnyH_take (i := 6) (v := ?_) rfl (by kernel_rfl) (by kernel_rfl) (by kernel_rfl) (fun _ _ _ h => h) (Or.inl ⟨by rfl, ?_⟩) (by assumption) ?_
            rotate_left
            (focus (intro w0 hSw; (try dsimp only at hSw); go_simp <;> with_reducible rfl))
            simp only [List.getElem_toArray, List.getElem_cons_succ, List.getElem_cons_zero, Act.put, List.setIfInBounds_toArray, List.set_cons_zero, List.set_cons_succ]
            refine wpAnyH_take (i := 7) (v := ?_) rfl (by kernel_rfl) (by kernel_rfl) (by kernel_rfl) (fun _ _ _ h => h) (Or.inl ⟨by rfl, ?_⟩) (by assumption) ?_
            rotate_left
            (focus (intro w0 hSw; (try dsimp only at hSw); go_simp <;> with_reducible rfl))
            simp only [List.getElem_toArray, List.getElem_cons_succ, List.getElem_cons_zero, Act.put, List.setIfInBounds_toArray, List.set_cons_zero, List.set_cons_succ]
            refine (show wpAnyH _ _ _ _ _ (4 + 1) _ _ _ from wpAnyH_flow (fun j v w => match j with | 4 => Iv (stE l0 F0 n) v w | 8 => Iv (stE l1 F1 k) v w | 9 => E3 er (stE l0 F0 n) (stE l1 F1 k) v w | 10 => Iv ef v w | _ => True) [(4, 187), (8, 191), (9, 192), (10, 193)] [4, 8, 9, 10] [11] _ _ _ 1 ?k1 ?k4 ?k2 ?k3 ?k5 ?k6 ?k8)
            case k1 => kernel_rfl
            case k4 => kernel_rfl
            case k2 => exact fun w w' h hb => ⟨kCb hb h.1, kCb hb h.2⟩
            case k3 =>
              intro j v w w' h hb
              split at h <;> first | exact Iv.below h hb | exact E3.below h hb | exact h | trivial
            case k8 => exact hHeld
            case k5 =>
              intro i hi
              simp only [List.mem_cons, List.not_mem_nil, or_false] at hi
              rcases hi with rfl | rfl | rfl | rfl
              · refine ⟨_, rfl, fun u w5 hS hb5 hd K hK => ?_⟩
                simp only [fill, List.foldl_cons, List.foldl_nil, Act.put, List.setIfInBounds_toArray, List.set_cons_zero, List.set_cons_succ] at hK ⊢
                go_simp
                go_at_call 24
                refine (lawSt_c (z := n) (G0.out.below (HB.out.trans (hb5.mono HB.out.size))) (Nat.le_trans hl0 (by decide))).mono ?_
                rintro e w6 ⟨rfl, rfl⟩
                (try go_wp2_with fail)
                exact hK.out _ _ (Below.refl _ _) rfl
              · refine ⟨_, rfl, fun u w5 hS hb5 hd K hK => ?_⟩
                simp only [fill, List.foldl_cons, List.foldl_nil, Act.put, List.setIfInBounds_toArray, List.set_cons_zero, List.set_cons_succ] at hK ⊢
                go_simp
                go_at_call 24
                refine (lawSt_c (z := k) (G1.out.below (HB.out.trans (hb5.mono HB.out.size))) (Nat.le_trans hl1 (by decide))).mono ?_
                rintro e w6 ⟨rfl, rfl⟩
                (try go_wp2_with fail)
                exact hK.out _ _ (Below.refl _ _) rfl
              · refine ⟨_, rfl, fun u w5 hS hb5 hd K hK => ?_⟩
                have hd1 : Iv (stE l0 F0 n) (u 4) w5 := hd 4 (by kernel_rfl) (by kernel_rfl)
                have hd2 : Iv (stE l1 F1 k) (u 8) w5 := hd 8 (by kernel_rfl) (by kernel_rfl)
                unfold Iv at hd1 hd2
                simp only [fill, List.foldl_cons, List.foldl_nil, Act.put, List.setIfInBounds_toArray, List.set_cons_zero, List.set_cons_succ] at hK ⊢
                simp only [hd1, hd2] at hK ⊢
                go_simp
                exact hK.out _ _ (below_alloc (Below.refl _ _) _) ⟨w5.heap.size, rfl, tri_el⟩
              · refine ⟨_, rfl, fun u w5 hS hb5 hd K hK => ?_⟩
                have hd1 : E3 er (stE l0 F0 n) (stE l1 F1 k) (u 9) w5 := hd 9 (by kernel_rfl) (by kernel_rfl)
                obtain ⟨gb, e1, hel⟩ := hd1
                simp only [fill, List.foldl_cons, List.foldl_nil, Act.put, List.setIfInBounds_toArray, List.set_cons_zero, List.set_cons_succ] at hK ⊢
                simp only [e1] at hK ⊢
                go_simp
                go_at_call 20
                refine (fLeast_c hel (by decide)).mono ?_
                rintro e w6 ⟨rfl, rfl⟩
                (try go_wp2_with fail)
                exact hK.out _ _ (Below.refl _ _) (by show Value.int _ _ = _; rw [HEL.out])
            case k6 =>
              intro u w5 hS5 hb5 hg
              have h10 : Iv ef (u 10) w5 := hg 10 (by simp)
              unfold Iv at h10
              replace HB := hid (HB.out.trans (hb5.mono HB.out.size)); replace H1 := hid (H1.out.below hb5); replace H2 := hid (H2.out.below hb5); replace NN := hid (NN.out.below hb5); replace ND := hid (ND.out.below hb5); replace BA := hid (BA.out.below hb5)
              clear hg
              simp only [fill, List.foldl_cons, List.foldl_nil, Act.put, List.setIfInBounds_toArray, List.set_cons_zero, List.set_cons_succ]
              simp only [h10]
              clear h10
              refine wpAnyH_take (i := 11) (v := ?_) rfl (by kernel_rfl) (by kernel_rfl) (by kernel_rfl) (fun _ _ _ h => h) (Or.inl ⟨by rfl, ?_⟩) (by assumption) ?_
              rotate_left
              (focus (intro w0 hSw; (try dsimp only at hSw); go_simp <;> with_reducible rfl))
              simp only [List.getElem_toArray, List.getElem_cons_succ, List.getElem_cons_zero, Act.put, List.setIfInBounds_toArray, List.set_cons_zero, List.set_cons_succ]
              refine wpAnyH_done (by kernel_rfl) ?_ _
              clear hS5 hHeld hb5 HEL
              have i0 : (ef == ef) = true := by simp
              have g0c := NN.out.cell (j := 0) rfl
              have g1c := NN.out.cell (j := 1) rfl
              have d0c := ND.out.cell (j := 0) rfl
              have d1c := ND.out.cell (j := 1) rfl
              have d2c := ND.out.cell (j := 2) rfl
              by_cases h0 : ef = 0
              · subst h0
                rcases BA.out with ⟨h1, _⟩ | ⟨_, rfl, rfl, rfl, rfl, rfl, hb2, hp3⟩
                · exact absurd rfl h1
                obtain ⟨_, _, _, _, eb, hbe0, hbe1⟩ := hb2
                cases eb
                have E0 := hid hbe0.1; have E1 := hid hbe1.1; have P3 := hid hp3
                clear hbe0 hbe1 hp3 BA
                have r0 := H2.out.cell (j := 0) rfl
                have r1 := H2.out.cell (j := 1) rfl
                have m0 := H1.out.cell (j := 0) rfl
                have m1 := H1.out.cell (j := 1) rfl
                have m2 := H1.out.cell (j := 2) rfl
                go_wp2_with fail
                refine (sameBs_c E0.out (G0.out.below HB.out) (Nat.le_trans hl0 (by decide)) E1.out (G1.out.below HB.out) (Nat.le_trans hl1 (by decide))).mono ?_
                rintro e w6 ⟨rfl, hb6⟩
                replace HB := hid (HB.out.trans (hb6.mono HB.out.size)); replace H1 := hid (H1.out.below hb6); replace ND := hid (ND.out.below hb6); replace P3 := hid (P3.out.below hb6)
                clear m0 m1 m2 d0c d1c d2c g0c g1c r0 r1 hb6
                have d0c := ND.out.cell (j := 0) rfl
                have d1c := ND.out.cell (j := 1) rfl
                have d2c := ND.out.cell (j := 2) rfl
                have m0 := H1.out.cell (j := 0) rfl
                have m1 := H1.out.cell (j := 1) rfl
                have m2 := H1.out.cell (j := 2) rfl
                go_wp2_with fail
                refine (p3_same (R0.out.below HB.out) (R1.out.below HB.out) (R2.out.below HB.out) (fun j _ => Sn.refl _) (fun j _ => Sn.refl _) (fun j _ => Sn.refl _) N0.out N1.out N2.out (ptE_zero (coE_zero HEF.out.symm)) P3.out).mono ?_
                rintro e w7 ⟨rfl, hb7⟩
                replace HB := hid (HB.out.trans (hb7.mono HB.out.size))
                go_wp2
                go_ret
                exact ⟨rfl, HB.out⟩
              · have i1 : (ef == 0) = false := by simpa using h0
                have i2 : (ef != 0) = true := by simpa using h0
                rcases BA.out with ⟨_, rfl, rfl, rfl, rfl, rfl⟩ | ⟨h1, _⟩
                case inr => exact absurd h1 h0
                go_wp2_with fail
                refine (samePt_c (rf_nil 0 _ _) (rf_nil 0 _ _) rfl (by decide) (rf_nil 0 _ _) (rf_nil 0 _ _) rfl (by decide) (rf_nil 0 _ _) (rf_nil 0 _ _) rfl (by decide) (by decide) (by decide)).mono ?_
                rintro e w7 ⟨rfl, hb7⟩
                replace HB := hid (HB.out.trans (hb7.mono HB.out.size))
                go_wp2
                go_ret
                exact ⟨rfl, HB.out⟩
end Go.Proofs.Ytllpllebmknmpaa

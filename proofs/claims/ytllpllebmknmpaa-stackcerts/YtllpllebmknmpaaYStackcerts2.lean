/-
  The walk of stack's Cert, of a stack without steps (written by makers/o9.py). The walk of StackCerts (written by makers/o10.py).
-/
import Derived.Test.YtllpllebmknmpaaZ0
import Derived.Test.YtllpllebmknmpaaZ1
import Derived.Test.YtllpllebmknmpaaZ2
import Derived.Test.YtllpllebmknmpaaZ3
import Derived.Test.YtllpllebmknmpaaZ4
import Derived.Test.YtllpllebmknmpaaYStackcerts0
import Derived.Test.YtllpllebmknmpaaYStackcerts1
namespace Go.Proofs.Ytllpllebmknmpaa
open Go.RowKit

def qua (e0 e1 e2 e3 : Int) (j : Nat) : Int := if j = 0 then e0 else if j = 1 then e1 else if j = 2 then e2 else e3
theorem qua_el {w : World} {e0 e1 e2 e3 : Int} {t : TypeId} : El (w.alloc (.cells #[.int .i64 e0, .int .i64 e1, .int .i64 e2, .int .i64 e3] t)) (some ⟨w.heap.size, 0, none⟩) 4 (qua e0 e1 e2 e3) := fun j hj => by
  refine ⟨_, 0, rfl, ?_⟩
  match j, hj with
  | 0, _ => simp [go_sem, qua]
  | 1, _ => simp [go_sem, qua]
  | 2, _ => simp [go_sem, qua]
  | 3, _ => simp [go_sem, qua]
/-- The error of a certificate that is handed in. -/
def ctE (n k : Int) (k0 : Nat) (X0 : Nat → Nm) (k1 : Nat) (X1 : Nat → Nm) (k2 : Nat) (X2 : Nat → Nm) (k3 : Nat) (X3 : Nat → Nm) : Int := lsf (qua (pnE k0 X0 k) (pnE k1 X1 k) (pnE k2 X2 n) (pnE k3 X3 n)) 4
/-- A value that is a box of its own, all empty. -/
def Bn (m : Nat) (T : TypeId) (base : Nat) (v : Value) (w : World) : Prop := ∃ b, v = .pointer (some ⟨b, 0, none⟩) ∧ base ≤ b ∧ Bk w b (List.replicate m (.slice none 0 0)) T
theorem Bn.below {m T base v w w'} (h : Bn m T base v w) (hb : Below w.heap.size w w') : Bn m T base v w' := by
  obtain ⟨b, h1, h2, h3⟩ := h
  exact ⟨b, h1, h2, h3.below hb⟩
/-- Four lists of the same numbers in one value. -/
def R4 (k0 : Nat) (X0 : Nat → Nm) (k1 : Nat) (X1 : Nat → Nm) (k2 : Nat) (X2 : Nat → Nm) (k3 : Nat) (X3 : Nat → Nm) (v : Value) (w : World) : Prop := ∃ b0 d0 b1 d1 b2 d2 b3 d3, v = .agg #[.slice b0 k0 d0, .slice b1 k1 d1, .slice b2 k2 d2, .slice b3 k3 d3] ∧ RS k0 X0 (.slice b0 k0 d0) w ∧ RS k1 X1 (.slice b1 k1 d1) w ∧ RS k2 X2 (.slice b2 k2 d2) w ∧ RS k3 X3 (.slice b3 k3 d3) w
theorem R4.below {k0 X0 k1 X1 k2 X2 k3 X3 v w w'} (h : R4 k0 X0 k1 X1 k2 X2 k3 X3 v w) (hb : Below w.heap.size w w') : R4 k0 X0 k1 X1 k2 X2 k3 X3 v w' := by
  obtain ⟨b0, d0, b1, d1, b2, d2, b3, d3, h1, h2, h3, h4, h5⟩ := h
  exact ⟨b0, d0, b1, d1, b2, d2, b3, d3, h1, h2.below hb, h3.below hb, h4.below hb, h5.below hb⟩
theorem R4.st {k0 X0 k1 X1 k2 X2 k3 X3 v} {w w' : World} {B : Nat} (h : R4 k0 X0 k1 X1 k2 X2 k3 X3 v w) (hk : Kp w w') (hne : ∀ b, b ≠ B → w'.heap[b]? = w.heap[b]?) (hnb : ∀ o s, w.cell? ⟨B, o, none⟩ ≠ some (.bool s)) : R4 k0 X0 k1 X1 k2 X2 k3 X3 v w' := by
  obtain ⟨b0, d0, b1, d1, b2, d2, b3, d3, h1, h2, h3, h4, h5⟩ := h
  exact ⟨b0, d0, b1, d1, b2, d2, b3, d3, h1, h2.st hk hne hnb, h3.st hk hne hnb, h4.st hk hne hnb, h5.st hk hne hnb⟩
/-- What Cert answers. -/
def CertAns (w w' : World) (e : Ending) (n k : Int) (k0 : Nat) (X0 : Nat → Nm) (k1 : Nat) (X1 : Nat → Nm) (k2 : Nat) (X2 : Nat → Nm) (k3 : Nat) (X3 : Nat → Nm) : Prop := Below w.heap.size w w' ∧
  ((ctE n k k0 X0 k1 X1 k2 X2 k3 X3 ≠ 0 ∧ e = .returned (.tuple #[.agg #[.slice none 0 0, .slice none 0 0, .slice none 0 0, .slice none 0 0], .int .i64 (ctE n k k0 X0 k1 X1 k2 X2 k3 X3)])) ∨ (ctE n k k0 X0 k1 X1 k2 X2 k3 X3 = 0 ∧ ∃ b0 d0 b1 d1 b2 d2 b3 d3, e = .returned (.tuple #[.agg #[.slice b0 k0 d0, .slice b1 k1 d1, .slice b2 k2 d2, .slice b3 k3 d3], .int .i64 0]) ∧ R4 k0 X0 k1 X1 k2 X2 k3 X3 (.agg #[.slice b0 k0 d0, .slice b1 k1 d1, .slice b2 k2 d2, .slice b3 k3 d3]) w'))
set_option maxRecDepth 100000 in
set_option maxHeartbeats 8000000 in
theorem scert_c {w : World} {B : Nat} {n k : Int} {a0 a1 a2 a3 : Option Addr} {k0 c0 k1 c1 k2 c2 k3 c3 : Nat} {X0 X1 X2 X3 : Nat → Nm} (hs : Sk w B n k) (h0 : Rl w a0 k0 X0) (h1 : Rl w a1 k1 X1) (h2 : Rl w a2 k2 X2) (h3 : Rl w a3 k3 X3) (hk0 : k0 ≤ 1048576) (hk1 : k1 ≤ 1048576) (hk2 : k2 ≤ 1048576) (hk3 : k3 ≤ 1048576) :
    Calls Try.prog 26 #[.pointer (some ⟨B, 0, none⟩), .agg #[.slice a0 k0 c0, .slice a1 k1 c1, .slice a2 k2 c2, .slice a3 k3 c3]] w fun e w' => CertAns w w' e n k k0 X0 k1 X1 k2 X2 k3 X3 := by
  have C0 := hid (fun W (hW : Below w.heap.size w W) => pNumbers_c (w := W) (cap := c0) (z := k) (h0.below hW) hk0)
  have C1 := hid (fun W (hW : Below w.heap.size w W) => pNumbers_c (w := W) (cap := c1) (z := k) (h1.below hW) hk1)
  have C2 := hid (fun W (hW : Below w.heap.size w W) => pNumbers_c (w := W) (cap := c2) (z := n) (h2.below hW) hk2)
  have C3 := hid (fun W (hW : Below w.heap.size w W) => pNumbers_c (w := W) (cap := c3) (z := n) (h3.below hW) hk3)
  have P0 : Hid (∀ W, Below w.heap.size w W → Calls Try.prog 44 #[.slice a0 k0 c0] W fun e w' => ∃ v, e = .returned v ∧ Below W.heap.size W w' ∧ RS k0 X0 v w') := fun W hW => (copied_c (cap := c0) (h0.below hW) hk0).mono (fun _ _ ⟨g, Y, e1, e2, e3⟩ => ⟨_, e1, e2, e3.out.rs h0⟩)
  have P1 : Hid (∀ W, Below w.heap.size w W → Calls Try.prog 44 #[.slice a1 k1 c1] W fun e w' => ∃ v, e = .returned v ∧ Below W.heap.size W w' ∧ RS k1 X1 v w') := fun W hW => (copied_c (cap := c1) (h1.below hW) hk1).mono (fun _ _ ⟨g, Y, e1, e2, e3⟩ => ⟨_, e1, e2, e3.out.rs h1⟩)
  have P2 : Hid (∀ W, Below w.heap.size w W → Calls Try.prog 44 #[.slice a2 k2 c2] W fun e w' => ∃ v, e = .returned v ∧ Below W.heap.size W w' ∧ RS k2 X2 v w') := fun W hW => (copied_c (cap := c2) (h2.below hW) hk2).mono (fun _ _ ⟨g, Y, e1, e2, e3⟩ => ⟨_, e1, e2, e3.out.rs h2⟩)
  have P3 : Hid (∀ W, Below w.heap.size w W → Calls Try.prog 44 #[.slice a3 k3 c3] W fun e w' => ∃ v, e = .returned v ∧ Below W.heap.size W w' ∧ RS k3 X3 v w') := fun W hW => (copied_c (cap := c3) (h3.below hW) hk3).mono (fun _ _ ⟨g, Y, e1, e2, e3⟩ => ⟨_, e1, e2, e3.out.rs h3⟩)
  have HS := hid hs
  clear h0 h1 h2 h3 hs
  obtain ⟨er, her⟩ : ∃ e, ctE n k k0 X0 k1 X1 k2 X2 k3 X3 = e := ⟨_, rfl⟩
  have HE := hid her
  unfold ctE at her
  obtain ⟨e0, he0⟩ : ∃ e, pnE k0 X0 k = e := ⟨_, rfl⟩
  rw [he0] at C0 her
  clear he0
  obtain ⟨e1, he1⟩ : ∃ e, pnE k1 X1 k = e := ⟨_, rfl⟩
  rw [he1] at C1 her
  clear he1
  obtain ⟨e2, he2⟩ : ∃ e, pnE k2 X2 n = e := ⟨_, rfl⟩
  rw [he2] at C2 her
  clear he2
  obtain ⟨e3, he3⟩ : ∃ e, pnE k3 X3 n = e := ⟨_, rfl⟩
  rw [he3] at C3 her
  clear he3
  have HE2 := hid her
  clear her
  have hb := below_alloc (below_alloc (Below.refl w.heap.size w) (.cells #[.slice a0 k0 c0, .slice a1 k1 c1, .slice a2 k2 c2, .slice a3 k3 c3] 55)) (.cells #[.slice none 0 0, .slice none 0 0, .slice none 0 0, .slice none 0 0] 55)
  have B1 : Bk ((w.alloc (.cells #[.slice a0 k0 c0, .slice a1 k1 c1, .slice a2 k2 c2, .slice a3 k3 c3] 55)).alloc (.cells #[.slice none 0 0, .slice none 0 0, .slice none 0 0, .slice none 0 0] 55)) w.heap.size [.slice a0 k0 c0, .slice a1 k1 c1, .slice a2 k2 c2, .slice a3 k3 c3] 55 := (bk_new w [.slice a0 k0 c0, .slice a1 k1 c1, .slice a2 k2 c2, .slice a3 k3 c3] 55).below (below_alloc (Below.refl _ _) (.cells #[.slice none 0 0, .slice none 0 0, .slice none 0 0, .slice none 0 0] 55))
  have B2 : Bk ((w.alloc (.cells #[.slice a0 k0 c0, .slice a1 k1 c1, .slice a2 k2 c2, .slice a3 k3 c3] 55)).alloc (.cells #[.slice none 0 0, .slice none 0 0, .slice none 0 0, .slice none 0 0] 55)) (w.heap.size + 1) [.slice none 0 0, .slice none 0 0, .slice none 0 0, .slice none 0 0] 55 := by
    have := bk_new (w.alloc (.cells #[.slice a0 k0 c0, .slice a1 k1 c1, .slice a2 k2 c2, .slice a3 k3 c3] 55)) [.slice none 0 0, .slice none 0 0, .slice none 0 0, .slice none 0 0] 55
    rw [size_alloc1] at this
    exact this
  have hsz : ((w.alloc (.cells #[.slice a0 k0 c0, .slice a1 k1 c1, .slice a2 k2 c2, .slice a3 k3 c3] 55)).alloc (.cells #[.slice none 0 0, .slice none 0 0, .slice none 0 0, .slice none 0 0] 55)).heap.size = w.heap.size + 1 + 1 := by simp
  have HB := hid hb; have HB1 := hid B1; have HB2 := hid B2; have HSZ := hid hsz
  clear hb B1 B2 hsz
  go_enter Try.func26, Try.ntmps26
  go_upto_region 3 with fail
  generalize (w.alloc (.cells #[.slice a0 k0 c0, .slice a1 k1 c1, .slice a2 k2 c2, .slice a3 k3 c3] 55)).alloc (.cells #[.slice none 0 0, .slice none 0 0, .slice none 0 0, .slice none 0 0] 55) = w1 at *
  have s2 := (HS.out.below HB.out).c2
  have s3 := (HS.out.below HB.out).c3
  go_quiet (fail)
  clear s2 s3
  go_upto_region 4 with fail
  have hbq := below_drewN (Below.refl w1.heap.size w1) nq
  generalize w1.drewN nq = w2 at *
  have hbd := Below.drew (Below.refl w2.heap.size w2)
  replace hbq := hbq.trans (hbd.mono hbq.size)
  replace HB := hid (HB.out.trans (hbq.mono HB.out.size)); replace HB1 := hid (HB1.out.below hbq); replace HB2 := hid (HB2.out.below hbq); have hsq := hbq.size
  clear hbq hbd
  have r0 := HB1.out.cell (j := 0) rfl
  have r1 := HB1.out.cell (j := 1) rfl
  have r2 := HB1.out.cell (j := 2) rfl
  have r3 := HB1.out.cell (j := 3) rfl
  refine wp_region_held_drew (S := (fun w' => w'.cell? ⟨w.heap.size, 0, none⟩ = some (.slice a0 k0 c0) ∧ w'.cell? ⟨w.heap.size, 1, none⟩ = some (.slice a1 k1 c1) ∧ w'.cell? ⟨w.heap.size, 2, none⟩ = some (.slice a2 k2 c2) ∧ w'.cell? ⟨w.heap.size, 3, none⟩ = some (.slice a3 k3 c3))) (by kernel_rfl) ?_ (fun hHeld => ?_)
  · exact ⟨r0, r1, r2, r3⟩
  generalize w2.drew = wd at *
  have HW := hid (Below.refl wd.heap.size wd)
  replace C0 := hid (fun W (hW : Below wd.heap.size wd W) => C0.out W (HB.out.trans (hW.mono HB.out.size)))
  replace C1 := hid (fun W (hW : Below wd.heap.size wd W) => C1.out W (HB.out.trans (hW.mono HB.out.size)))
  replace C2 := hid (fun W (hW : Below wd.heap.size wd W) => C2.out W (HB.out.trans (hW.mono HB.out.size)))
  replace C3 := hid (fun W (hW : Below wd.heap.size wd W) => C3.out W (HB.out.trans (hW.mono HB.out.size)))
  refine wpAnyH_take (i := 0) (v := ?_) rfl (by kernel_rfl) (by kernel_rfl) (by kernel_rfl) (fun _ _ _ h => h) (Or.inl ⟨by rfl, ?_⟩) (by assumption) ?_
  rotate_left
  (focus (intro w0 hSw; (try dsimp only at hSw); go_simp <;> with_reducible rfl))
  simp only [List.getElem_toArray, List.getElem_cons_zero, Act.put, List.setIfInBounds_toArray, List.set_cons_zero, List.set_cons_succ]
  refine wpAnyH_take (i := 1) (v := ?_) rfl (by kernel_rfl) (by kernel_rfl) (by kernel_rfl) (fun _ _ _ h => h) (Or.inl ⟨by rfl, ?_⟩) (by assumption) ?_
  rotate_left
  (focus (intro w0 hSw; (try dsimp only at hSw); go_simp <;> with_reducible rfl))
  simp only [List.getElem_toArray, List.getElem_cons_succ, List.getElem_cons_zero, Act.put, List.setIfInBounds_toArray, List.set_cons_zero, List.set_cons_succ]
  refine wpAnyH_take (i := 2) (v := ?_) rfl (by kernel_rfl) (by kernel_rfl) (by kernel_rfl) (fun _ _ _ h => h) (Or.inl ⟨by rfl, ?_⟩) (by assumption) ?_
  rotate_left
  (focus (intro w0 hSw; (try dsimp only at hSw); go_simp <;> with_reducible rfl))
  simp only [List.getElem_toArray, List.getElem_cons_succ, List.getElem_cons_zero, Act.put, List.setIfInBounds_toArray, List.set_cons_zero, List.set_cons_succ]
  refine wpAnyH_take (i := 4) (v := ?_) rfl (by kernel_rfl) (by kernel_rfl) (by kernel_rfl) (fun _ _ _ h => h) (Or.inl ⟨by rfl, ?_⟩) (by assumption) ?_
  rotate_left
  (focus (intro w0 hSw; (try dsimp only at hSw); go_simp <;> with_reducible rfl))
  simp only [List.getElem_toArray, List.getElem_cons_succ, List.getElem_cons_zero, Act.put, List.setIfInBounds_toArray, List.set_cons_zero, List.set_cons_succ]
  refine wpAnyH_take (i := 5) (v := ?_) rfl (by kernel_rfl) (by kernel_rfl) (by kernel_rfl) (fun _ _ _ h => h) (Or.inl ⟨by rfl, ?_⟩) (by assumption) ?_
  rotate_left
  (focus (intro w0 hSw; (try dsimp only at hSw); go_simp <;> with_reducible rfl))
  simp only [List.getElem_toArray, List.getElem_cons_succ, List.getElem_cons_zero, Act.put, List.setIfInBounds_toArray, List.set_cons_zero, List.set_cons_succ]
  refine wpAnyH_take (i := 6) (v := ?_) rfl (by kernel_rfl) (by kernel_rfl) (by kernel_rfl) (fun _ _ _ h => h) (Or.inl ⟨by rfl, ?_⟩) (by assumption) ?_
  rotate_left
  (focus (intro w0 hSw; (try dsimp only at hSw); go_simp <;> with_reducible rfl))
  simp only [List.getElem_toArray, List.getElem_cons_succ, List.getElem_cons_zero, Act.put, List.setIfInBounds_toArray, List.set_cons_zero, List.set_cons_succ]
  refine wpAnyH_take (i := 8) (v := ?_) rfl (by kernel_rfl) (by kernel_rfl) (by kernel_rfl) (fun _ _ _ h => h) (Or.inl ⟨by rfl, ?_⟩) (by assumption) ?_
  rotate_left
  (focus (intro w0 hSw; (try dsimp only at hSw); go_simp <;> with_reducible rfl))
  simp only [List.getElem_toArray, List.getElem_cons_succ, List.getElem_cons_zero, Act.put, List.setIfInBounds_toArray, List.set_cons_zero, List.set_cons_succ]
  refine wpAnyH_take (i := 9) (v := ?_) rfl (by kernel_rfl) (by kernel_rfl) (by kernel_rfl) (fun _ _ _ h => h) (Or.inl ⟨by rfl, ?_⟩) (by assumption) ?_
  rotate_left
  (focus (intro w0 hSw; (try dsimp only at hSw); go_simp <;> with_reducible rfl))
  simp only [List.getElem_toArray, List.getElem_cons_succ, List.getElem_cons_zero, Act.put, List.setIfInBounds_toArray, List.set_cons_zero, List.set_cons_succ]
  refine wpAnyH_take (i := 10) (v := ?_) rfl (by kernel_rfl) (by kernel_rfl) (by kernel_rfl) (fun _ _ _ h => h) (Or.inl ⟨by rfl, ?_⟩) (by assumption) ?_
  rotate_left
  (focus (intro w0 hSw; (try dsimp only at hSw); go_simp <;> with_reducible rfl))
  simp only [List.getElem_toArray, List.getElem_cons_succ, List.getElem_cons_zero, Act.put, List.setIfInBounds_toArray, List.set_cons_zero, List.set_cons_succ]
  refine wpAnyH_take (i := 12) (v := ?_) rfl (by kernel_rfl) (by kernel_rfl) (by kernel_rfl) (fun _ _ _ h => h) (Or.inl ⟨by rfl, ?_⟩) (by assumption) ?_
  rotate_left
  (focus (intro w0 hSw; (try dsimp only at hSw); go_simp <;> with_reducible rfl))
  simp only [List.getElem_toArray, List.getElem_cons_succ, List.getElem_cons_zero, Act.put, List.setIfInBounds_toArray, List.set_cons_zero, List.set_cons_succ]
  refine wpAnyH_take (i := 13) (v := ?_) rfl (by kernel_rfl) (by kernel_rfl) (by kernel_rfl) (fun _ _ _ h => h) (Or.inl ⟨by rfl, ?_⟩) (by assumption) ?_
  rotate_left
  (focus (intro w0 hSw; (try dsimp only at hSw); go_simp <;> with_reducible rfl))
  simp only [List.getElem_toArray, List.getElem_cons_succ, List.getElem_cons_zero, Act.put, List.setIfInBounds_toArray, List.set_cons_zero, List.set_cons_succ]
  refine wpAnyH_take (i := 14) (v := ?_) rfl (by kernel_rfl) (by kernel_rfl) (by kernel_rfl) (fun _ _ _ h => h) (Or.inl ⟨by rfl, ?_⟩) (by assumption) ?_
  rotate_left
  (focus (intro w0 hSw; (try dsimp only at hSw); go_simp <;> with_reducible rfl))
  simp only [List.getElem_toArray, List.getElem_cons_succ, List.getElem_cons_zero, Act.put, List.setIfInBounds_toArray, List.set_cons_zero, List.set_cons_succ]
  refine wpAnyH_ready (rs := [3]) (by kernel_rfl) (by simp) ?_
  refine AllReadyH.cons (o := _) rfl (fun K hK => ?_) ?_
  rotate_left
  exact AllReadyH.nil
  go_simp
  go_at_call 43
  refine (C0.out _ HW.out).mono ?_
  rintro e w2 ⟨rfl, hb0⟩
  have HW0 := hid (HW.out.trans (hb0.mono HW.out.size))
  (try go_wp2_with fail)
  refine hK.out _ _ ?_ (fun hH0 => ?_)
  · ((try dsimp only); (refine ⟨?_, ?_, ?_, ?_⟩ <;> repeat (with_reducible first | assumption | refine kCb (by assumption) ?_)))
  clear hK K
  try simp only [Act.put, List.setIfInBounds_toArray, List.set_cons_zero, List.set_cons_succ]
  refine wpAnyH_ready (rs := [7]) (by kernel_rfl) (by simp) ?_
  refine AllReadyH.cons (o := _) rfl (fun K hK => ?_) ?_
  rotate_left
  exact AllReadyH.nil
  go_simp
  go_at_call 43
  refine (C1.out _ HW0.out).mono ?_
  rintro e w3 ⟨rfl, hb1⟩
  have HW1 := hid (HW0.out.trans (hb1.mono HW0.out.size))
  (try go_wp2_with fail)
  refine hK.out _ _ ?_ (fun hH1 => ?_)
  · ((try dsimp only); (refine ⟨?_, ?_, ?_, ?_⟩ <;> repeat (with_reducible first | assumption | refine kCb (by assumption) ?_)))
  clear hK K
  try simp only [Act.put, List.setIfInBounds_toArray, List.set_cons_zero, List.set_cons_succ]
  refine wpAnyH_ready (rs := [11]) (by kernel_rfl) (by simp) ?_
  refine AllReadyH.cons (o := _) rfl (fun K hK => ?_) ?_
  rotate_left
  exact AllReadyH.nil
  go_simp
  go_at_call 43
  refine (C2.out _ HW1.out).mono ?_
  rintro e w4 ⟨rfl, hb2⟩
  have HW2 := hid (HW1.out.trans (hb2.mono HW1.out.size))
  (try go_wp2_with fail)
  refine hK.out _ _ ?_ (fun hH2 => ?_)
  · ((try dsimp only); (refine ⟨?_, ?_, ?_, ?_⟩ <;> repeat (with_reducible first | assumption | refine kCb (by assumption) ?_)))
  clear hK K
  try simp only [Act.put, List.setIfInBounds_toArray, List.set_cons_zero, List.set_cons_succ]
  refine wpAnyH_ready (rs := [15]) (by kernel_rfl) (by simp) ?_
  refine AllReadyH.cons (o := _) rfl (fun K hK => ?_) ?_
  rotate_left
  exact AllReadyH.nil
  go_simp
  go_at_call 43
  refine (C3.out _ HW2.out).mono ?_
  rintro e w5 ⟨rfl, hb3⟩
  have HW3 := hid (HW2.out.trans (hb3.mono HW2.out.size))
  (try go_wp2_with fail)
  refine hK.out _ _ ?_ (fun hH3 => ?_)
  · ((try dsimp only); (refine ⟨?_, ?_, ?_, ?_⟩ <;> repeat (with_reducible first | assumption | refine kCb (by assumption) ?_)))
  clear hK K
  try simp only [Act.put, List.setIfInBounds_toArray, List.set_cons_zero, List.set_cons_succ]
  refine wpAnyH_ready (rs := [16]) (by kernel_rfl) (by simp) ?_
  refine AllReadyH.cons (o := _) rfl (fun K hK => ?_) ?_
  rotate_left
  exact AllReadyH.nil
  go_simp
  have hbA := below_alloc (Below.refl w5.heap.size w5) (.cells #[.int .i64 e0, .int .i64 e1, .int .i64 e2, .int .i64 e3] 24)
  have HEl := hid (qua_el (w := w5) (e0 := e0) (e1 := e1) (e2 := e2) (e3 := e3) (t := 24))
  have HWA := hid (HW3.out.trans (hbA.mono HW3.out.size))
  obtain ⟨gA, hgA⟩ : ∃ z, w5.heap.size = z := ⟨_, rfl⟩
  rw [hgA] at HEl ⊢
  generalize hwA : w5.alloc (.cells #[.int .i64 e0, .int .i64 e1, .int .i64 e2, .int .i64 e3] 24) = wA at *
  clear hwA hgA
  refine hK.out _ _ ?_ (fun hHA => ?_)
  · ((try dsimp only); (refine ⟨?_, ?_, ?_, ?_⟩ <;> repeat (with_reducible first | assumption | refine kCb (by assumption) ?_)))
  clear hK K
  try simp only [Act.put, List.setIfInBounds_toArray, List.set_cons_zero, List.set_cons_succ]
  refine wpAnyH_ready (rs := [17]) (by kernel_rfl) (by simp) ?_
  refine AllReadyH.cons (o := _) rfl (fun K hK => ?_) ?_
  rotate_left
  exact AllReadyH.nil
  go_simp
  go_at_call 42
  refine (least_c HEl.out (by decide)).mono ?_
  rintro e w9 ⟨rfl, rfl⟩
  (try go_wp2_with fail)
  refine hK.out _ _ ?_ (fun hHB => ?_)
  · exact hHA
  clear hK K
  try simp only [Act.put, List.setIfInBounds_toArray, List.set_cons_zero, List.set_cons_succ]
  refine wpAnyH_take (i := 18) (v := ?_) rfl (by kernel_rfl) (by kernel_rfl) (by kernel_rfl) (fun _ _ _ h => h) (Or.inl ⟨by rfl, ?_⟩) (by assumption) ?_
  rotate_left
  (focus (intro w0 hSw; (try dsimp only at hSw); go_simp <;> with_reducible rfl))
  simp only [List.getElem_toArray, List.getElem_cons_succ, List.getElem_cons_zero, Act.put, List.setIfInBounds_toArray, List.set_cons_zero, List.set_cons_succ]
  refine wpAnyH_done (by kernel_rfl) ?_ _
  simp only [show lsf (qua e0 e1 e2 e3) 4 = er from HE2.out]
  clear hHeld hH0 hH1 hH2 hH3 hHA hHB hb0 hb1 hb2 hb3 hbA r0 r1 r2 r3 HEl C0 C1 C2 C3 HW HW0 HW1 HW2 HW3 HE2
  replace HB := hid (HB.out.trans (HWA.out.mono HB.out.size)); replace HB1 := hid (HB1.out.below HWA.out); replace HB2 := hid (HB2.out.below HWA.out); have hsA := HWA.out.size
  clear HWA
  by_cases h0 : er = 0
  · subst h0
    go_upto_region 7 with fail
    have hbd := Below.drew (Below.refl w9.heap.size w9)
    replace HB := hid (HB.out.trans (hbd.mono HB.out.size)); replace HB1 := hid (HB1.out.below hbd); replace HB2 := hid (HB2.out.below hbd); have hsd := hbd.size
    clear hbd
    have r0 := HB1.out.cell (j := 0) rfl
    have r1 := HB1.out.cell (j := 1) rfl
    have r2 := HB1.out.cell (j := 2) rfl
    have r3 := HB1.out.cell (j := 3) rfl
    refine wp_region_held_drew (S := (fun w' => w'.cell? ⟨w.heap.size, 0, none⟩ = some (.slice a0 k0 c0) ∧ w'.cell? ⟨w.heap.size, 1, none⟩ = some (.slice a1 k1 c1) ∧ w'.cell? ⟨w.heap.size, 2, none⟩ = some (.slice a2 k2 c2) ∧ w'.cell? ⟨w.heap.size, 3, none⟩ = some (.slice a3 k3 c3))) (by kernel_rfl) ?_ (fun hHeld => ?_)
    · exact ⟨r0, r1, r2, r3⟩
    generalize w9.drew = wd2 at *
    clear r0 r1 r2 r3
    refine wpAnyH_take (i := 0) (v := ?_) rfl (by kernel_rfl) (by kernel_rfl) (by kernel_rfl) (fun _ _ _ h => h) (Or.inl ⟨by rfl, ?_⟩) (by assumption) ?_
    rotate_left
    (focus (intro w0 hSw; (try dsimp only at hSw); go_simp <;> with_reducible rfl))
    simp only [List.getElem_toArray, List.getElem_cons_zero, Act.put, List.setIfInBounds_toArray, List.set_cons_zero, List.set_cons_succ]
    refine wpAnyH_take (i := 1) (v := ?_) rfl (by kernel_rfl) (by kernel_rfl) (by kernel_rfl) (fun _ _ _ h => h) (Or.inl ⟨by rfl, ?_⟩) (by assumption) ?_
    rotate_left
    (focus (intro w0 hSw; (try dsimp only at hSw); go_simp <;> with_reducible rfl))
    simp only [List.getElem_toArray, List.getElem_cons_succ, List.getElem_cons_zero, Act.put, List.setIfInBounds_toArray, List.set_cons_zero, List.set_cons_succ]
    refine wpAnyH_take (i := 3) (v := ?_) rfl (by kernel_rfl) (by kernel_rfl) (by kernel_rfl) (fun _ _ _ h => h) (Or.inl ⟨by rfl, ?_⟩) (by assumption) ?_
    rotate_left
    (focus (intro w0 hSw; (try dsimp only at hSw); go_simp <;> with_reducible rfl))
    simp only [List.getElem_toArray, List.getElem_cons_succ, List.getElem_cons_zero, Act.put, List.setIfInBounds_toArray, List.set_cons_zero, List.set_cons_succ]
    refine wpAnyH_take (i := 4) (v := ?_) rfl (by kernel_rfl) (by kernel_rfl) (by kernel_rfl) (fun _ _ _ h => h) (Or.inl ⟨by rfl, ?_⟩) (by assumption) ?_
    rotate_left
    (focus (intro w0 hSw; (try dsimp only at hSw); go_simp <;> with_reducible rfl))
    simp only [List.getElem_toArray, List.getElem_cons_succ, List.getElem_cons_zero, Act.put, List.setIfInBounds_toArray, List.set_cons_zero, List.set_cons_succ]
    refine wpAnyH_take (i := 6) (v := ?_) rfl (by kernel_rfl) (by kernel_rfl) (by kernel_rfl) (fun _ _ _ h => h) (Or.inl ⟨by rfl, ?_⟩) (by assumption) ?_
    rotate_left
    (focus (intro w0 hSw; (try dsimp only at hSw); go_simp <;> with_reducible rfl))
    simp only [List.getElem_toArray, List.getElem_cons_succ, List.getElem_cons_zero, Act.put, List.setIfInBounds_toArray, List.set_cons_zero, List.set_cons_succ]
    refine wpAnyH_take (i := 7) (v := ?_) rfl (by kernel_rfl) (by kernel_rfl) (by kernel_rfl) (fun _ _ _ h => h) (Or.inl ⟨by rfl, ?_⟩) (by assumption) ?_
    rotate_left
    (focus (intro w0 hSw; (try dsimp only at hSw); go_simp <;> with_reducible rfl))
    simp only [List.getElem_toArray, List.getElem_cons_succ, List.getElem_cons_zero, Act.put, List.setIfInBounds_toArray, List.set_cons_zero, List.set_cons_succ]
    refine wpAnyH_take (i := 9) (v := ?_) rfl (by kernel_rfl) (by kernel_rfl) (by kernel_rfl) (fun _ _ _ h => h) (Or.inl ⟨by rfl, ?_⟩) (by assumption) ?_
    rotate_left
    (focus (intro w0 hSw; (try dsimp only at hSw); go_simp <;> with_reducible rfl))
    simp only [List.getElem_toArray, List.getElem_cons_succ, List.getElem_cons_zero, Act.put, List.setIfInBounds_toArray, List.set_cons_zero, List.set_cons_succ]
    refine wpAnyH_take (i := 10) (v := ?_) rfl (by kernel_rfl) (by kernel_rfl) (by kernel_rfl) (fun _ _ _ h => h) (Or.inl ⟨by rfl, ?_⟩) (by assumption) ?_
    rotate_left
    (focus (intro w0 hSw; (try dsimp only at hSw); go_simp <;> with_reducible rfl))
    simp only [List.getElem_toArray, List.getElem_cons_succ, List.getElem_cons_zero, Act.put, List.setIfInBounds_toArray, List.set_cons_zero, List.set_cons_succ]
    refine (show wpAnyH _ _ _ _ _ (6 + 1) _ _ _ from wpAnyH_flow (fun j v w => match j with | 2 => RS k0 X0 v w | 5 => RS k1 X1 v w | 8 => RS k2 X2 v w | 11 => RS k3 X3 v w | 12 => R4 k0 X0 k1 X1 k2 X2 k3 X3 v w | 13 => Bn 4 55 wd2.heap.size v w | _ => True) [(2, 47), (5, 50), (8, 53), (11, 56), (12, 57), (13, 9)] [2, 5, 8, 11, 12, 13] [14] _ _ _ 1 ?k1 ?k4 ?k2 ?k3 ?k5 ?k6 ?k8)
    case k1 => kernel_rfl
    case k4 => kernel_rfl
    case k2 => exact fun w w' h hb => ⟨kCb hb h.1, kCb hb h.2.1, kCb hb h.2.2.1, kCb hb h.2.2.2⟩
    case k3 =>
      intro j v w w' h hb
      split at h <;> first | exact RS.below h hb | exact R4.below h hb | exact Bn.below h hb | exact h | trivial
    case k8 => exact hHeld
    case k5 =>
      intro i hi
      simp only [List.mem_cons, List.not_mem_nil, or_false] at hi
      rcases hi with rfl | rfl | rfl | rfl | rfl | rfl
      · refine ⟨_, rfl, fun u w5 hS hb5 hd K hK => ?_⟩
        simp only [fill, List.foldl_cons, List.foldl_nil, Act.put, List.setIfInBounds_toArray, List.set_cons_zero, List.set_cons_succ] at hK ⊢
        go_simp
        go_at_call 44
        refine (P0.out _ (HB.out.trans (hb5.mono HB.out.size))).mono ?_
        rintro e w6 ⟨v6, rfl, hb6, hq⟩
        (try go_wp2_with fail)
        exact hK.out _ _ hb6 hq
      · refine ⟨_, rfl, fun u w5 hS hb5 hd K hK => ?_⟩
        simp only [fill, List.foldl_cons, List.foldl_nil, Act.put, List.setIfInBounds_toArray, List.set_cons_zero, List.set_cons_succ] at hK ⊢
        go_simp
        go_at_call 44
        refine (P1.out _ (HB.out.trans (hb5.mono HB.out.size))).mono ?_
        rintro e w6 ⟨v6, rfl, hb6, hq⟩
        (try go_wp2_with fail)
        exact hK.out _ _ hb6 hq
      · refine ⟨_, rfl, fun u w5 hS hb5 hd K hK => ?_⟩
        simp only [fill, List.foldl_cons, List.foldl_nil, Act.put, List.setIfInBounds_toArray, List.set_cons_zero, List.set_cons_succ] at hK ⊢
        go_simp
        go_at_call 44
        refine (P2.out _ (HB.out.trans (hb5.mono HB.out.size))).mono ?_
        rintro e w6 ⟨v6, rfl, hb6, hq⟩
        (try go_wp2_with fail)
        exact hK.out _ _ hb6 hq
      · refine ⟨_, rfl, fun u w5 hS hb5 hd K hK => ?_⟩
        simp only [fill, List.foldl_cons, List.foldl_nil, Act.put, List.setIfInBounds_toArray, List.set_cons_zero, List.set_cons_succ] at hK ⊢
        go_simp
        go_at_call 44
        refine (P3.out _ (HB.out.trans (hb5.mono HB.out.size))).mono ?_
        rintro e w6 ⟨v6, rfl, hb6, hq⟩
        (try go_wp2_with fail)
        exact hK.out _ _ hb6 hq
      · refine ⟨_, rfl, fun u w5 hS hb5 hd K hK => ?_⟩
        have hj0 : RS k0 X0 (u 2) w5 := hd 2 (by kernel_rfl) (by kernel_rfl)
        obtain ⟨b0, d0, Y0, q0, x0, y0⟩ := hj0
        have hj1 : RS k1 X1 (u 5) w5 := hd 5 (by kernel_rfl) (by kernel_rfl)
        obtain ⟨b1, d1, Y1, q1, x1, y1⟩ := hj1
        have hj2 : RS k2 X2 (u 8) w5 := hd 8 (by kernel_rfl) (by kernel_rfl)
        obtain ⟨b2, d2, Y2, q2, x2, y2⟩ := hj2
        have hj3 : RS k3 X3 (u 11) w5 := hd 11 (by kernel_rfl) (by kernel_rfl)
        obtain ⟨b3, d3, Y3, q3, x3, y3⟩ := hj3
        simp only [fill, List.foldl_cons, List.foldl_nil, Act.put, List.setIfInBounds_toArray, List.set_cons_zero, List.set_cons_succ] at hK ⊢
        simp only [q0, q1, q2, q3] at hK ⊢
        go_simp
        exact hK.out _ _ (Below.refl _ _) ⟨b0, d0, b1, d1, b2, d2, b3, d3, rfl, ⟨_, _, Y0, rfl, x0, y0⟩, ⟨_, _, Y1, rfl, x1, y1⟩, ⟨_, _, Y2, rfl, x2, y2⟩, ⟨_, _, Y3, rfl, x3, y3⟩⟩
      · refine ⟨_, rfl, fun u w5 hS hb5 hd K hK => ?_⟩
        simp only [fill, List.foldl_cons, List.foldl_nil, Act.put, List.setIfInBounds_toArray, List.set_cons_zero, List.set_cons_succ] at hK ⊢
        go_simp
        exact hK.out _ _ (below_alloc (Below.refl _ _) _) ⟨w5.heap.size, rfl, hb5.size, bk_new w5 (List.replicate 4 (.slice none 0 0)) _⟩
    case k6 =>
      intro u w5 hS5 hb5 hg
      have h12 : R4 k0 X0 k1 X1 k2 X2 k3 X3 (u 12) w5 := hg 12 (by simp)
      have h13 : Bn 4 55 wd2.heap.size (u 13) w5 := hg 13 (by simp)
      have h12b := h12
      obtain ⟨b0, d0, b1, d1, b2, d2, b3, d3, e12, _, _, _, _⟩ := h12
      rw [e12] at h12b
      obtain ⟨gb, e13, hge, hbk⟩ := h13
      replace hbk : Bk w5 gb [.slice none 0 0, .slice none 0 0, .slice none 0 0, .slice none 0 0] 55 := hbk
      replace HB := hid (HB.out.trans (hb5.mono HB.out.size)); replace HB1 := hid (HB1.out.below hb5); replace HB2 := hid (HB2.out.below hb5)
      have hz1 := HB2.out.lt
      have hz0 := HSZ.out
      clear hg
      simp only [fill, List.foldl_cons, List.foldl_nil, Act.put, List.setIfInBounds_toArray, List.set_cons_zero, List.set_cons_succ]
      simp only [e12, e13]
      clear e12 e13
      refine wpAnyH_ready (rs := [14]) (by kernel_rfl) (by simp) ?_
      refine AllReadyH.cons (o := _) rfl (fun K hK => ?_) ?_
      rotate_left
      exact AllReadyH.nil
      have l0 := hbk.cell (j := 0) rfl
      have l1 := hbk.cell (j := 1) rfl
      have l2 := hbk.cell (j := 2) rfl
      have l3 := hbk.cell (j := 3) rfl
      have ff := hbk.frozen
      go_simp
      obtain ⟨hx1, hx2, hx3⟩ := st_new [.slice b0 k0 d0, .slice b1 k1 d1, .slice b2 k2 d2, .slice b3 k3 d3] hbk (nou_list (fun u hu q => by simp at hu; subst hu; simp)) HB.out (by omega)
      have hnb := bk_nob hbk (fun v hv => by simp at hv; subst hv; exact ⟨_, _, _, rfl⟩)
      have B9 := stl_bk [.slice b0 k0 d0, .slice b1 k1 d1, .slice b2 k2 d2, .slice b3 k3 d3] _ 0 _ rfl hbk
      obtain ⟨w19, hw19⟩ : ∃ x, stl gb 0 [.slice b0 k0 d0, .slice b1 k1 d1, .slice b2 k2 d2, .slice b3 k3 d3] w5 = x := ⟨_, rfl⟩
      rw [show ((((w5.setCell ⟨gb, 0, none⟩ (.slice b0 k0 d0)).setCell ⟨gb, 1, none⟩ (.slice b1 k1 d1)).setCell ⟨gb, 2, none⟩ (.slice b2 k2 d2)).setCell ⟨gb, 3, none⟩ (.slice b3 k3 d3)) = w19 from hw19]
      rw [hw19] at hx1 hx2 hx3 B9
      replace B9 : Bk w19 gb [.slice b0 k0 d0, .slice b1 k1 d1, .slice b2 k2 d2, .slice b3 k3 d3] _ := B9
      replace HB1 := hid (HB1.out.of (hx3 w.heap.size (by omega))); replace HB2 := hid (HB2.out.of (hx3 (w.heap.size + 1) (by omega)))
      replace h12b := h12b.st hx2 hx3 hnb
      have r0 := HB1.out.cell (j := 0) rfl
      have r1 := HB1.out.cell (j := 1) rfl
      have r2 := HB1.out.cell (j := 2) rfl
      have r3 := HB1.out.cell (j := 3) rfl
      clear hw19 ff l0 l1 l2 l3
      refine hK.out _ _ ⟨r0, r1, r2, r3⟩ (fun hH9 => ?_)
      clear hK K
      try simp only [Act.put]
      refine wpAnyH_done (by kernel_rfl) ?_ _
      have HB9 := hid hx1; have H12 := hid h12b; have HB10 := hid B9
      clear hx1 hx2 hx3 hnb h12b hH9 hS5 hHeld r0 r1 r2 r3 hbk P0 P1 P2 P3
      have t0 := HB10.out.cell (j := 0) rfl
      have t1 := HB10.out.cell (j := 1) rfl
      have t2 := HB10.out.cell (j := 2) rfl
      have t3 := HB10.out.cell (j := 3) rfl
      go_wp2_with fail
      refine (backK_c (HS.out.below HB9.out) _ _ _ _ _ _ _ _ _ _ _ _ _).mono ?_
      rintro e w10 ⟨rfl, hb10⟩
      replace HB9 := hid (HB9.out.trans (hb10.mono HB9.out.size)); replace HB2 := hid (HB2.out.below hb10); replace H12 := hid (H12.out.below hb10)
      clear t0 t1 t2 t3 hb10
      have l0 := HB2.out.cell (j := 0) rfl
      have l1 := HB2.out.cell (j := 1) rfl
      have l2 := HB2.out.cell (j := 2) rfl
      have l3 := HB2.out.cell (j := 3) rfl
      have ff := HB2.out.frozen
      obtain ⟨hx1, hx2, hx3⟩ := st_new [.slice b0 k0 d0, .slice b1 k1 d1, .slice b2 k2 d2, .slice b3 k3 d3] HB2.out (nou_list (fun u hu q => by simp at hu; subst hu; simp)) HB9.out (Nat.le_succ _)
      have hnb := bk_nob HB2.out (fun v hv => by simp at hv; subst hv; exact ⟨_, _, _, rfl⟩)
      have HX : Hid (CertAns w (stl (w.heap.size + 1) 0 [.slice b0 k0 d0, .slice b1 k1 d1, .slice b2 k2 d2, .slice b3 k3 d3] w10) (.returned (.tuple #[.agg #[.slice b0 k0 d0, .slice b1 k1 d1, .slice b2 k2 d2, .slice b3 k3 d3], .int .i64 0])) n k k0 X0 k1 X1 k2 X2 k3 X3) := ⟨hx1, .inr ⟨HE.out, _, _, _, _, _, _, _, _, rfl, H12.out.st hx2 hx3 hnb⟩⟩
      clear hx1 hx2 hx3 hnb HSZ HE HB HB1 HB2 HS HB9 H12 HB10
      go_wp2
      exact bodyPost_ret (v := .tuple #[.agg #[.slice b0 k0 d0, .slice b1 k1 d1, .slice b2 k2 d2, .slice b3 k3 d3], .int .i64 0]) (by simp [results, Try.results26, go_sem, l0, l1, l2, l3]) rfl HX.out
  · have h1 : (er != 0) = true := by simpa using h0
    have l0 := HB2.out.cell (j := 0) rfl
    have l1 := HB2.out.cell (j := 1) rfl
    have l2 := HB2.out.cell (j := 2) rfl
    have l3 := HB2.out.cell (j := 3) rfl
    have ff := HB2.out.frozen
    obtain ⟨hx1, hx2, hx3⟩ := st_new [.slice none 0 0, .slice none 0 0, .slice none 0 0, .slice none 0 0] HB2.out (nou_list (fun u hu q => by simp at hu; subst hu; simp)) HB.out (Nat.le_succ _)
    have HX : Hid (CertAns w (stl (w.heap.size + 1) 0 [.slice none 0 0, .slice none 0 0, .slice none 0 0, .slice none 0 0] w9) (.returned (.tuple #[.agg #[.slice none 0 0, .slice none 0 0, .slice none 0 0, .slice none 0 0], .int .i64 er])) n k k0 X0 k1 X1 k2 X2 k3 X3) := ⟨hx1, .inl ⟨by rw [HE.out]; exact h0, by rw [HE.out]⟩⟩
    clear hx1 hx2 hx3 HSZ HE HB HB1 HB2 HS P0 P1 P2 P3
    go_wp2
    exact bodyPost_ret (v := .tuple #[.agg #[.slice none 0 0, .slice none 0 0, .slice none 0 0, .slice none 0 0], .int .i64 er]) (by simp [results, Try.results26, go_sem, l0, l1, l2, l3]) rfl HX.out
end Go.Proofs.Ytllpllebmknmpaa
namespace Go.Proofs.Ytllpllebmknmpaa
open Go.RowKit

/-- A list of two lists of numbers. -/
def pick2 {T : Type} (a b : T) (i : Nat) : T := if i = 0 then a else b
theorem ll_two {w : World} {t : TypeId} {a0 a1 : Option Addr} {k0 c0 k1 c1 : Nat} {X0 X1 : Nat → Nm} (h0 : Rl w a0 k0 X0) (h1 : Rl w a1 k1 X1) (l0 : k0 ≤ 10000 ∧ ∀ j, j < k0 → (X0 j).n ≤ 1000 ∧ (X0 j).m ≤ 1000) (l1 : k1 ≤ 10000 ∧ ∀ j, j < k1 → (X1 j).n ≤ 1000 ∧ (X1 j).m ≤ 1000) :
    LL (w.alloc (.cells #[.slice a0 k0 c0, .slice a1 k1 c1] t)) (some ⟨w.heap.size, 0, none⟩) 2 (pick2 a0 a1) (pick2 k0 k1) (pick2 c0 c1) (pick2 X0 X1) := fun i hi => by
  have hb := below_alloc (Below.refl w.heap.size w) (.cells #[.slice a0 k0 c0, .slice a1 k1 c1] t)
  rcases (show i = 0 ∨ i = 1 by omega) with rfl | rfl
  · exact ⟨_, 0, rfl, by simp [go_sem, pick2], h0.below hb, l0⟩
  · exact ⟨_, 0, rfl, by simp [go_sem, pick2], h1.below hb, l1⟩
/-- A value that is a list of two lists. -/
def L2 (a0 : Option Addr) (k0 c0 : Nat) (X0 : Nat → Nm) (a1 : Option Addr) (k1 c1 : Nat) (X1 : Nat → Nm) (v : Value) (w : World) : Prop := ∃ b, v = .slice (some ⟨b, 0, none⟩) 2 2 ∧ LL w (some ⟨b, 0, none⟩) 2 (pick2 a0 a1) (pick2 k0 k1) (pick2 c0 c1) (pick2 X0 X1)
theorem L2.below {a0 k0 c0 X0 a1 k1 c1 X1 v w w'} (h : L2 a0 k0 c0 X0 a1 k1 c1 X1 v w) (hb : Below w.heap.size w w') : L2 a0 k0 c0 X0 a1 k1 c1 X1 v w' := by
  obtain ⟨b, h1, h2⟩ := h
  exact ⟨b, h1, h2.below hb⟩
def Iv (z : Int) (v : Value) (_ : World) : Prop := v = .int .i64 z
theorem Iv.below {z v w w'} (h : Iv z v w) (_ : Below w.heap.size w w') : Iv z v w' := h
/-- A value that is a list of two errors. -/
def E2 (a b : Int) (v : Value) (w : World) : Prop := ∃ g, v = .slice (some ⟨g, 0, none⟩) 2 2 ∧ El w (some ⟨g, 0, none⟩) 2 (two a b)
theorem E2.below {a b v w w'} (h : E2 a b v w) (hb : Below w.heap.size w w') : E2 a b v w' := by
  obtain ⟨g, h1, h2⟩ := h
  exact ⟨g, h1, h2.below hb⟩
theorem ct_lists {n k : Int} {k0 k1 k2 k3 : Nat} {X0 X1 X2 X3 : Nat → Nm} : lmin (lstF n (pick2 k2 k3) (pick2 X2 X3) 2) (lstF k (pick2 k0 k1) (pick2 X0 X1) 2) = ctE n k k0 X0 k1 X1 k2 X2 k3 X3 := by
  rw [lstF_two, lstF_two]
  show lmin (lmin (pnE k2 X2 n) (pnE k3 X3 n)) (lmin (pnE k0 X0 k) (pnE k1 X1 k)) = lsf (qua (pnE k0 X0 k) (pnE k1 X1 k) (pnE k2 X2 n) (pnE k3 X3 n)) 4
  rcases pnE_in k0 X0 k with h0 | h0 | h0 <;> rcases pnE_in k1 X1 k with h1 | h1 | h1 <;> rcases pnE_in k2 X2 n with h2 | h2 | h2 <;> rcases pnE_in k3 X3 n with h3 | h3 | h3 <;> rw [h0, h1, h2, h3] <;> decide
theorem nlg_lim {k : Nat} {X : Nat → Nm} (h : (decide (k ≤ 300) && nlg 10 X k 0) = true) : k ≤ 300 ∧ ∀ j, j < k → (X j).n ≤ 10 ∧ (X j).m ≤ 10 := by
  simp only [Bool.and_eq_true, decide_eq_true_eq] at h
  exact ⟨h.1, fun j hj => nlg_all h.2 j (by omega) (by omega)⟩
theorem ctE_zero {n k : Int} {k0 k1 k2 k3 : Nat} {X0 X1 X2 X3 : Nat → Nm} (h : ctE n k k0 X0 k1 X1 k2 X2 k3 X3 = 0) : afB k0 X0 = true ∧ afB k1 X1 = true ∧ afB k2 X2 = true ∧ afB k3 X3 = true := by
  have hz : ∀ {k : Nat} {X : Nat → Nm} {z : Int}, pnE k X z = 0 → afB k X = true := fun {k X z} e => by
    unfold pnE at e
    split at e
    · assumption
    · cases e
  unfold ctE at h
  rcases pnE_in k0 X0 k with h0 | h0 | h0 <;> rcases pnE_in k1 X1 k with h1 | h1 | h1 <;> rcases pnE_in k2 X2 n with h2 | h2 | h2 <;> rcases pnE_in k3 X3 n with h3 | h3 | h3 <;> first | exact ⟨hz h0, hz h1, hz h2, hz h3⟩ | (rw [h0, h1, h2, h3] at h; exact absurd h (by decide))
theorem nlgB {k : Nat} {X : Nat → Nm} (h : (decide (k ≤ 300) && nlg 10 X k 0) = true) : nlg 10 X k 0 = true := by
  simp only [Bool.and_eq_true] at h
  exact h.2
set_option maxRecDepth 100000 in
set_option maxHeartbeats 16000000 in
theorem stackCerts_x {a0 a1 a2 a3 : Option Addr} {k0 c0 k1 c1 k2 c2 k3 c3 : Nat} {X0 X1 X2 X3 : Nat → Nm} (n k : Int) (w : World) (hp0 : Rr w a0 k0 X0 ∧ k0 ≤ c0 ∧ c0 ≤ 9223372036854775807) (hp1 : Rr w a1 k1 X1 ∧ k1 ≤ c1 ∧ c1 ≤ 9223372036854775807) (hp2 : Rr w a2 k2 X2 ∧ k2 ≤ c2 ∧ c2 ≤ 9223372036854775807) (hp3 : Rr w a3 k3 X3 ∧ k3 ≤ c3 ∧ c3 ≤ 9223372036854775807) :
    Calls Try.prog 5 #[.int .i64 n, .int .i64 k, .agg #[.slice a0 k0 c0, .slice a1 k1 c1, .slice a2 k2 c2, .slice a3 k3 c3]] w fun e w' => e = .returned (.bool true) ∧ Below w.heap.size w w' := by
  have C0 := hid (fun W (hW : Below w.heap.size w W) => rLights_c (w := W) (cap := c0) 10 (hp0.1.below hW) (by omega))
  have C1 := hid (fun W (hW : Below w.heap.size w W) => rLights_c (w := W) (cap := c1) 10 (hp1.1.below hW) (by omega))
  have C2 := hid (fun W (hW : Below w.heap.size w W) => rLights_c (w := W) (cap := c2) 10 (hp2.1.below hW) (by omega))
  have C3 := hid (fun W (hW : Below w.heap.size w W) => rLights_c (w := W) (cap := c3) 10 (hp3.1.below hW) (by omega))
  obtain ⟨q0, hq0⟩ : ∃ q, (decide (k0 ≤ 300) && nlg 10 X0 k0 0) = q := ⟨_, rfl⟩
  rw [hq0] at C0
  obtain ⟨q1, hq1⟩ : ∃ q, (decide (k1 ≤ 300) && nlg 10 X1 k1 0) = q := ⟨_, rfl⟩
  rw [hq1] at C1
  obtain ⟨q2, hq2⟩ : ∃ q, (decide (k2 ≤ 300) && nlg 10 X2 k2 0) = q := ⟨_, rfl⟩
  rw [hq2] at C2
  obtain ⟨q3, hq3⟩ : ∃ q, (decide (k3 ≤ 300) && nlg 10 X3 k3 0) = q := ⟨_, rfl⟩
  rw [hq3] at C3
  have HQ0 := hid hq0; have HQ1 := hid hq1; have HQ2 := hid hq2; have HQ3 := hid hq3
  have HR0 := hid hp0.1; have HR1 := hid hp1.1; have HR2 := hid hp2.1; have HR3 := hid hp3.1
  clear hp0 hp1 hp2 hp3 hq0 hq1 hq2 hq3
  have hb := below_alloc (Below.refl w.heap.size w) (.cells #[.slice a0 k0 c0, .slice a1 k1 c1, .slice a2 k2 c2, .slice a3 k3 c3] 55)
  have HB := hid hb; have H1 := hid (show Bk (w.alloc (.cells #[.slice a0 k0 c0, .slice a1 k1 c1, .slice a2 k2 c2, .slice a3 k3 c3] 55)) w.heap.size [.slice a0 k0 c0, .slice a1 k1 c1, .slice a2 k2 c2, .slice a3 k3 c3] 55 from bk_new w [.slice a0 k0 c0, .slice a1 k1 c1, .slice a2 k2 c2, .slice a3 k3 c3] 55)
  clear hb
  go_enter Try.func5, Try.ntmps5
  go_wp2_with fail
  generalize w.alloc (.cells #[.slice a0 k0 c0, .slice a1 k1 c1, .slice a2 k2 c2, .slice a3 k3 c3] 55) = w1 at *
  refine (awake17_c _).mono ?_
  rintro e w2 ⟨rfl, hb2⟩
  replace HB := hid (HB.out.trans (hb2.mono HB.out.size)); replace H1 := hid (H1.out.below hb2)
  clear hb2
  by_cases hr : n < 0 ∨ 64 < n ∨ k < 0 ∨ 64 < k
  · go_wp2_with fail
    refine (snewE_c hr).mono ?_
    rintro e w3 ⟨rfl, rfl⟩
    go_wp2
    go_ret
    exact ⟨rfl, HB.out⟩
  go_wp2_with fail
  refine (snew_c (n := n) (k := k) (by omega) (by omega) (by omega) (by omega)).mono ?_
  rintro e w3 ⟨B, rfl, hb3, hs3⟩
  have HS := hid hs3.out.2
  replace HB := hid (HB.out.trans (hb3.mono HB.out.size)); replace H1 := hid (H1.out.below hb3)
  clear hb3 hs3 hr
  have r0 := H1.out.cell (j := 0) rfl
  go_wp2_with fail
  refine (C0.out _ HB.out).mono ?_
  rintro e w4 ⟨rfl, hb4⟩
  replace HB := hid (HB.out.trans (hb4.mono HB.out.size)); replace H1 := hid (H1.out.below hb4); replace HS := hid (HS.out.below hb4)
  clear hb4 r0
  cases q0
  · go_wp2
    go_ret
    exact ⟨rfl, HB.out⟩
  have r1 := H1.out.cell (j := 1) rfl
  go_wp2_with fail
  refine (C1.out _ HB.out).mono ?_
  rintro e w5 ⟨rfl, hb5⟩
  replace HB := hid (HB.out.trans (hb5.mono HB.out.size)); replace H1 := hid (H1.out.below hb5); replace HS := hid (HS.out.below hb5)
  clear hb5 r1
  cases q1
  · go_wp2
    go_ret
    exact ⟨rfl, HB.out⟩
  have r2 := H1.out.cell (j := 2) rfl
  go_wp2_with fail
  refine (C2.out _ HB.out).mono ?_
  rintro e w6 ⟨rfl, hb6⟩
  replace HB := hid (HB.out.trans (hb6.mono HB.out.size)); replace H1 := hid (H1.out.below hb6); replace HS := hid (HS.out.below hb6)
  clear hb6 r2
  cases q2
  · go_wp2
    go_ret
    exact ⟨rfl, HB.out⟩
  have r3 := H1.out.cell (j := 3) rfl
  go_wp2_with fail
  refine (C3.out _ HB.out).mono ?_
  rintro e w7 ⟨rfl, hb7⟩
  replace HB := hid (HB.out.trans (hb7.mono HB.out.size)); replace H1 := hid (H1.out.below hb7); replace HS := hid (HS.out.below hb7)
  clear hb7 r3
  cases q3
  · go_wp2
    go_ret
    exact ⟨rfl, HB.out⟩
  have N0 := hid (nlg_lim HQ0.out)
  have N1 := hid (nlg_lim HQ1.out)
  have N2 := hid (nlg_lim HQ2.out)
  have N3 := hid (nlg_lim HQ3.out)
  have R0 := hid (HR0.out.rl (nlgB HQ0.out) (by decide : 10 ≤ 65536))
  have R1 := hid (HR1.out.rl (nlgB HQ1.out) (by decide : 10 ≤ 65536))
  have R2 := hid (HR2.out.rl (nlgB HQ2.out) (by decide : 10 ≤ 65536))
  have R3 := hid (HR3.out.rl (nlgB HQ3.out) (by decide : 10 ≤ 65536))
  clear HQ0 HQ1 HQ2 HQ3 HR0 HR1 HR2 HR3 C0 C1 C2 C3
  have r0 := H1.out.cell (j := 0) rfl
  have r1 := H1.out.cell (j := 1) rfl
  have r2 := H1.out.cell (j := 2) rfl
  have r3 := H1.out.cell (j := 3) rfl
  go_wp2_with fail
  refine (twCert_c (R0.out.below HB.out) (R1.out.below HB.out) (R2.out.below HB.out) (R3.out.below HB.out) (Nat.le_trans N0.out.1 (by decide)) (Nat.le_trans N1.out.1 (by decide)) (Nat.le_trans N2.out.1 (by decide)) (Nat.le_trans N3.out.1 (by decide)) (fun j hj => ⟨Nat.le_trans (N0.out.2 j hj).1 (by decide), Nat.le_trans (N0.out.2 j hj).2 (by decide)⟩) (fun j hj => ⟨Nat.le_trans (N1.out.2 j hj).1 (by decide), Nat.le_trans (N1.out.2 j hj).2 (by decide)⟩) (fun j hj => ⟨Nat.le_trans (N2.out.2 j hj).1 (by decide), Nat.le_trans (N2.out.2 j hj).2 (by decide)⟩) (fun j hj => ⟨Nat.le_trans (N3.out.2 j hj).1 (by decide), Nat.le_trans (N3.out.2 j hj).2 (by decide)⟩)).mono ?_
  rintro e w8 ⟨b0, d0, Y0, b1, d1, Y1, b2, d2, Y2, b3, d3, Y3, rfl, hb8, hd, HT⟩
  replace HB := hid (HB.out.trans (hb8.mono HB.out.size)); replace H1 := hid (H1.out.below hb8); replace HS := hid (HS.out.below hb8)
  clear hb8 r0 r1 r2 r3 hd
  obtain ⟨t0, t1, t2, t3⟩ := HT.out
  have T0 := hid t0
  have T1 := hid t1
  have T2 := hid t2
  have T3 := hid t3
  clear HT t0 t1 t2 t3
  go_wp2_with fail
  refine (scert_c HS.out T0.out.1 T1.out.1 T2.out.1 T3.out.1 (Nat.le_trans N0.out.1 (by decide)) (Nat.le_trans N1.out.1 (by decide)) (Nat.le_trans N2.out.1 (by decide)) (Nat.le_trans N3.out.1 (by decide))).mono ?_
  rintro e w9 ⟨hb9, hans⟩
  replace HB := hid (HB.out.trans (hb9.mono HB.out.size)); replace H1 := hid (H1.out.below hb9); replace HS := hid (HS.out.below hb9)
  have hec : ctE n k k0 Y0 k1 Y1 k2 Y2 k3 Y3 = ctE n k k0 X0 k1 X1 k2 X2 k3 X3 := by
    unfold ctE
    rw [pnE_sn T0.out.2, pnE_sn T1.out.2, pnE_sn T2.out.2, pnE_sn T3.out.2]
  rw [hec] at hans
  obtain ⟨er, her⟩ : ∃ e, ctE n k k0 X0 k1 X1 k2 X2 k3 X3 = e := ⟨_, rfl⟩
  have HEL := hid (ct_lists (n := n) (k := k) (k0 := k0) (k1 := k1) (k2 := k2) (k3 := k3) (X0 := X0) (X1 := X1) (X2 := X2) (X3 := X3))
  rw [her] at hans HEL
  have HER := hid her
  clear hec her hb9
  rcases hans with ⟨he0, rfl⟩ | ⟨he0, g0, e0, g1, e1, g2, e2, g3, e3, rfl, h4⟩
  · have hn := below_alloc (Below.refl w9.heap.size w9) (.cells #[.slice none 0 0, .slice none 0 0, .slice none 0 0, .slice none 0 0] 55)
    have HA := hid (show Bk (w9.alloc (.cells #[.slice none 0 0, .slice none 0 0, .slice none 0 0, .slice none 0 0] 55)) w9.heap.size [.slice none 0 0, .slice none 0 0, .slice none 0 0, .slice none 0 0] 55 from bk_new w9 [.slice none 0 0, .slice none 0 0, .slice none 0 0, .slice none 0 0] 55)
    replace HB := hid (HB.out.trans (hn.mono HB.out.size)); replace H1 := hid (H1.out.below hn); replace HS := hid (HS.out.below hn)
    clear hn
    go_upto_region 7 with fail
    obtain ⟨ga, hga⟩ : ∃ z, w9.heap.size = z := ⟨_, rfl⟩
    simp only [hga] at *
    generalize w9.alloc (.cells #[.slice none 0 0, .slice none 0 0, .slice none 0 0, .slice none 0 0] 55) = wq at *
    have hbd := Below.drew (Below.refl wq.heap.size wq)
    replace HB := hid (HB.out.trans (hbd.mono HB.out.size)); replace H1 := hid (H1.out.below hbd); replace HS := hid (HS.out.below hbd); replace HA := hid (HA.out.below hbd)
    clear hbd hga
    have r0 := H1.out.cell (j := 0) rfl
    have r1 := H1.out.cell (j := 1) rfl
    have r2 := H1.out.cell (j := 2) rfl
    have r3 := H1.out.cell (j := 3) rfl
    refine wp_region_held_drew (S := (fun w' => w'.cell? ⟨w.heap.size, 0, none⟩ = some (.slice a0 k0 c0) ∧ w'.cell? ⟨w.heap.size, 1, none⟩ = some (.slice a1 k1 c1) ∧ w'.cell? ⟨w.heap.size, 2, none⟩ = some (.slice a2 k2 c2) ∧ w'.cell? ⟨w.heap.size, 3, none⟩ = some (.slice a3 k3 c3))) (by kernel_rfl) ?_ (fun hHeld => ?_)
    · exact ⟨r0, r1, r2, r3⟩
    generalize wq.drew = wd at *
    clear r0 r1 r2 r3
    refine wpAnyH_take (i := 0) (v := ?_) rfl (by kernel_rfl) (by kernel_rfl) (by kernel_rfl) (fun _ _ _ h => h) (Or.inl ⟨by rfl, ?_⟩) (by assumption) ?_
    rotate_left
    (focus (intro w0 hSw; (try dsimp only at hSw); go_simp <;> with_reducible rfl))
    simp only [List.getElem_toArray, List.getElem_cons_zero, Act.put, List.setIfInBounds_toArray, List.set_cons_zero, List.set_cons_succ]
    refine wpAnyH_take (i := 1) (v := ?_) rfl (by kernel_rfl) (by kernel_rfl) (by kernel_rfl) (fun _ _ _ h => h) (Or.inl ⟨by rfl, ?_⟩) (by assumption) ?_
    rotate_left
    (focus (intro w0 hSw; (try dsimp only at hSw); go_simp <;> with_reducible rfl))
    simp only [List.getElem_toArray, List.getElem_cons_succ, List.getElem_cons_zero, Act.put, List.setIfInBounds_toArray, List.set_cons_zero, List.set_cons_succ]
    refine wpAnyH_take (i := 2) (v := ?_) rfl (by kernel_rfl) (by kernel_rfl) (by kernel_rfl) (fun _ _ _ h => h) (Or.inl ⟨by rfl, ?_⟩) (by assumption) ?_
    rotate_left
    (focus (intro w0 hSw; (try dsimp only at hSw); go_simp <;> with_reducible rfl))
    simp only [List.getElem_toArray, List.getElem_cons_succ, List.getElem_cons_zero, Act.put, List.setIfInBounds_toArray, List.set_cons_zero, List.set_cons_succ]
    refine wpAnyH_take (i := 3) (v := ?_) rfl (by kernel_rfl) (by kernel_rfl) (by kernel_rfl) (fun _ _ _ h => h) (Or.inl ⟨by rfl, ?_⟩) (by assumption) ?_
    rotate_left
    (focus (intro w0 hSw; (try dsimp only at hSw); go_simp <;> with_reducible rfl))
    simp only [List.getElem_toArray, List.getElem_cons_succ, List.getElem_cons_zero, Act.put, List.setIfInBounds_toArray, List.set_cons_zero, List.set_cons_succ]
    refine wpAnyH_take (i := 4) (v := ?_) rfl (by kernel_rfl) (by kernel_rfl) (by kernel_rfl) (fun _ _ _ h => h) (Or.inl ⟨by rfl, ?_⟩) (by assumption) ?_
    rotate_left
    (focus (intro w0 hSw; (try dsimp only at hSw); go_simp <;> with_reducible rfl))
    simp only [List.getElem_toArray, List.getElem_cons_succ, List.getElem_cons_zero, Act.put, List.setIfInBounds_toArray, List.set_cons_zero, List.set_cons_succ]
    refine wpAnyH_take (i := 7) (v := ?_) rfl (by kernel_rfl) (by kernel_rfl) (by kernel_rfl) (fun _ _ _ h => h) (Or.inl ⟨by rfl, ?_⟩) (by assumption) ?_
    rotate_left
    (focus (intro w0 hSw; (try dsimp only at hSw); go_simp <;> with_reducible rfl))
    simp only [List.getElem_toArray, List.getElem_cons_succ, List.getElem_cons_zero, Act.put, List.setIfInBounds_toArray, List.set_cons_zero, List.set_cons_succ]
    refine wpAnyH_take (i := 8) (v := ?_) rfl (by kernel_rfl) (by kernel_rfl) (by kernel_rfl) (fun _ _ _ h => h) (Or.inl ⟨by rfl, ?_⟩) (by assumption) ?_
    rotate_left
    (focus (intro w0 hSw; (try dsimp only at hSw); go_simp <;> with_reducible rfl))
    simp only [List.getElem_toArray, List.getElem_cons_succ, List.getElem_cons_zero, Act.put, List.setIfInBounds_toArray, List.set_cons_zero, List.set_cons_succ]
    refine wpAnyH_take (i := 9) (v := ?_) rfl (by kernel_rfl) (by kernel_rfl) (by kernel_rfl) (fun _ _ _ h => h) (Or.inl ⟨by rfl, ?_⟩) (by assumption) ?_
    rotate_left
    (focus (intro w0 hSw; (try dsimp only at hSw); go_simp <;> with_reducible rfl))
    simp only [List.getElem_toArray, List.getElem_cons_succ, List.getElem_cons_zero, Act.put, List.setIfInBounds_toArray, List.set_cons_zero, List.set_cons_succ]
    refine wpAnyH_take (i := 10) (v := ?_) rfl (by kernel_rfl) (by kernel_rfl) (by kernel_rfl) (fun _ _ _ h => h) (Or.inl ⟨by rfl, ?_⟩) (by assumption) ?_
    rotate_left
    (focus (intro w0 hSw; (try dsimp only at hSw); go_simp <;> with_reducible rfl))
    simp only [List.getElem_toArray, List.getElem_cons_succ, List.getElem_cons_zero, Act.put, List.setIfInBounds_toArray, List.set_cons_zero, List.set_cons_succ]
    refine wpAnyH_take (i := 11) (v := ?_) rfl (by kernel_rfl) (by kernel_rfl) (by kernel_rfl) (fun _ _ _ h => h) (Or.inl ⟨by rfl, ?_⟩) (by assumption) ?_
    rotate_left
    (focus (intro w0 hSw; (try dsimp only at hSw); go_simp <;> with_reducible rfl))
    simp only [List.getElem_toArray, List.getElem_cons_succ, List.getElem_cons_zero, Act.put, List.setIfInBounds_toArray, List.set_cons_zero, List.set_cons_succ]
    refine (show wpAnyH _ _ _ _ _ (6 + 1) _ _ _ from wpAnyH_flow (fun j v w => match j with | 5 => L2 a2 k2 c2 X2 a3 k3 c3 X3 v w | 6 => Iv (lstF n (pick2 k2 k3) (pick2 X2 X3) 2) v w | 12 => L2 a0 k0 c0 X0 a1 k1 c1 X1 v w | 13 => Iv (lstF k (pick2 k0 k1) (pick2 X0 X1) 2) v w | 14 => E2 (lstF n (pick2 k2 k3) (pick2 X2 X3) 2) (lstF k (pick2 k0 k1) (pick2 X0 X1) 2) v w | 15 => Iv er v w | _ => True) [(5, 57), (6, 58), (12, 64), (13, 65), (14, 66), (15, 67)] [5, 6, 12, 13, 14, 15] [16] _ _ _ 1 ?k1 ?k4 ?k2 ?k3 ?k5 ?k6 ?k8)
    case k1 => kernel_rfl
    case k4 => kernel_rfl
    case k2 => exact fun w w' h hb => ⟨kCb hb h.1, kCb hb h.2.1, kCb hb h.2.2.1, kCb hb h.2.2.2⟩
    case k3 =>
      intro j v w w' h hb
      split at h <;> first | exact L2.below h hb | exact Iv.below h hb | exact E2.below h hb | exact h | trivial
    case k8 => exact hHeld
    case k5 =>
      intro i hi
      simp only [List.mem_cons, List.not_mem_nil, or_false] at hi
      rcases hi with rfl | rfl | rfl | rfl | rfl | rfl
      · refine ⟨_, rfl, fun u w5 hS hb5 hd K hK => ?_⟩
        simp only [fill, List.foldl_cons, List.foldl_nil, Act.put, List.setIfInBounds_toArray, List.set_cons_zero, List.set_cons_succ] at hK ⊢
        go_simp
        exact hK.out _ _ (below_alloc (Below.refl _ _) _) ⟨w5.heap.size, rfl, ll_two (R2.out.below (HB.out.trans (hb5.mono HB.out.size))) (R3.out.below (HB.out.trans (hb5.mono HB.out.size))) ⟨Nat.le_trans N2.out.1 (by decide), (fun j hj => ⟨Nat.le_trans (N2.out.2 j hj).1 (by decide), Nat.le_trans (N2.out.2 j hj).2 (by decide)⟩)⟩ ⟨Nat.le_trans N3.out.1 (by decide), (fun j hj => ⟨Nat.le_trans (N3.out.2 j hj).1 (by decide), Nat.le_trans (N3.out.2 j hj).2 (by decide)⟩)⟩⟩
      · refine ⟨_, rfl, fun u w5 hS hb5 hd K hK => ?_⟩
        have hd1 : L2 a2 k2 c2 X2 a3 k3 c3 X3 (u 5) w5 := hd 5 (by kernel_rfl) (by kernel_rfl)
        obtain ⟨gb, e1, hll⟩ := hd1
        simp only [fill, List.foldl_cons, List.foldl_nil, Act.put, List.setIfInBounds_toArray, List.set_cons_zero, List.set_cons_succ] at hK ⊢
        simp only [e1] at hK ⊢
        go_simp
        go_at_call 15
        refine (lists_c hll (by decide)).mono ?_
        rintro e w6 ⟨rfl, hb6⟩
        (try go_wp2_with fail)
        exact hK.out _ _ hb6 rfl
      · refine ⟨_, rfl, fun u w5 hS hb5 hd K hK => ?_⟩
        simp only [fill, List.foldl_cons, List.foldl_nil, Act.put, List.setIfInBounds_toArray, List.set_cons_zero, List.set_cons_succ] at hK ⊢
        go_simp
        exact hK.out _ _ (below_alloc (Below.refl _ _) _) ⟨w5.heap.size, rfl, ll_two (R0.out.below (HB.out.trans (hb5.mono HB.out.size))) (R1.out.below (HB.out.trans (hb5.mono HB.out.size))) ⟨Nat.le_trans N0.out.1 (by decide), (fun j hj => ⟨Nat.le_trans (N0.out.2 j hj).1 (by decide), Nat.le_trans (N0.out.2 j hj).2 (by decide)⟩)⟩ ⟨Nat.le_trans N1.out.1 (by decide), (fun j hj => ⟨Nat.le_trans (N1.out.2 j hj).1 (by decide), Nat.le_trans (N1.out.2 j hj).2 (by decide)⟩)⟩⟩
      · refine ⟨_, rfl, fun u w5 hS hb5 hd K hK => ?_⟩
        have hd1 : L2 a0 k0 c0 X0 a1 k1 c1 X1 (u 12) w5 := hd 12 (by kernel_rfl) (by kernel_rfl)
        obtain ⟨gb, e1, hll⟩ := hd1
        simp only [fill, List.foldl_cons, List.foldl_nil, Act.put, List.setIfInBounds_toArray, List.set_cons_zero, List.set_cons_succ] at hK ⊢
        simp only [e1] at hK ⊢
        go_simp
        go_at_call 15
        refine (lists_c hll (by decide)).mono ?_
        rintro e w6 ⟨rfl, hb6⟩
        (try go_wp2_with fail)
        exact hK.out _ _ hb6 rfl
      · refine ⟨_, rfl, fun u w5 hS hb5 hd K hK => ?_⟩
        have hd1 : Iv (lstF n (pick2 k2 k3) (pick2 X2 X3) 2) (u 6) w5 := hd 6 (by kernel_rfl) (by kernel_rfl)
        have hd2 : Iv (lstF k (pick2 k0 k1) (pick2 X0 X1) 2) (u 13) w5 := hd 13 (by kernel_rfl) (by kernel_rfl)
        unfold Iv at hd1 hd2
        simp only [fill, List.foldl_cons, List.foldl_nil, Act.put, List.setIfInBounds_toArray, List.set_cons_zero, List.set_cons_succ] at hK ⊢
        simp only [hd1, hd2] at hK ⊢
        go_simp
        exact hK.out _ _ (below_alloc (Below.refl _ _) _) ⟨w5.heap.size, rfl, two_el⟩
      · refine ⟨_, rfl, fun u w5 hS hb5 hd K hK => ?_⟩
        have hd1 : E2 (lstF n (pick2 k2 k3) (pick2 X2 X3) 2) (lstF k (pick2 k0 k1) (pick2 X0 X1) 2) (u 14) w5 := hd 14 (by kernel_rfl) (by kernel_rfl)
        obtain ⟨gb, e1, hel⟩ := hd1
        simp only [fill, List.foldl_cons, List.foldl_nil, Act.put, List.setIfInBounds_toArray, List.set_cons_zero, List.set_cons_succ] at hK ⊢
        simp only [e1] at hK ⊢
        go_simp
        go_at_call 20
        refine (fLeast_c hel (by decide)).mono ?_
        rintro e w6 ⟨rfl, rfl⟩
        (try go_wp2_with fail)
        exact hK.out _ _ (Below.refl _ _) (by show Value.int _ _ = _; rw [← HEL.out]; rfl)
    case k6 =>
      intro u w5 hS5 hb5 hg
      have h15 : Iv er (u 15) w5 := hg 15 (by simp)
      unfold Iv at h15
      replace HB := hid (HB.out.trans (hb5.mono HB.out.size)); replace H1 := hid (H1.out.below hb5); replace HS := hid (HS.out.below hb5); replace HA := hid (HA.out.below hb5)
      clear hg
      simp only [fill, List.foldl_cons, List.foldl_nil, Act.put, List.setIfInBounds_toArray, List.set_cons_zero, List.set_cons_succ]
      simp only [h15]
      clear h15
      refine wpAnyH_take (i := 16) (v := ?_) rfl (by kernel_rfl) (by kernel_rfl) (by kernel_rfl) (fun _ _ _ h => h) (Or.inl ⟨by rfl, ?_⟩) (by assumption) ?_
      rotate_left
      (focus (intro w0 hSw; (try dsimp only at hSw); go_simp <;> with_reducible rfl))
      simp only [List.getElem_toArray, List.getElem_cons_succ, List.getElem_cons_zero, Act.put, List.setIfInBounds_toArray, List.set_cons_zero, List.set_cons_succ]
      refine wpAnyH_done (by kernel_rfl) ?_ _
      clear hS5 hHeld hb5 HEL
      have i0 : (er == er) = true := by simp
      have i1 : (er == 0) = false := by simpa using he0
      have i2 : (er != 0) = true := by simpa using he0
      have l0 := HA.out.cell (j := 0) rfl
      have l1 := HA.out.cell (j := 1) rfl
      have l2 := HA.out.cell (j := 2) rfl
      have l3 := HA.out.cell (j := 3) rfl
      go_wp2_with fail
      refine (sameCt_c (rf_nil 0 _ _) (rf_nil 0 _ _) rfl (by decide) (rf_nil 0 _ _) (rf_nil 0 _ _) rfl (by decide) (rf_nil 0 _ _) (rf_nil 0 _ _) rfl (by decide) (rf_nil 0 _ _) (rf_nil 0 _ _) rfl (by decide) (by decide) (by decide)).mono ?_
      rintro e w20 ⟨rfl, hb20⟩
      replace HB := hid (HB.out.trans (hb20.mono HB.out.size))
      clear hb20
      go_wp2
      go_ret
      exact ⟨rfl, HB.out⟩
  · subst he0
    have hn := below_alloc (Below.refl w9.heap.size w9) (.cells #[.slice g0 k0 e0, .slice g1 k1 e1, .slice g2 k2 e2, .slice g3 k3 e3] 55)
    have HA := hid (show Bk (w9.alloc (.cells #[.slice g0 k0 e0, .slice g1 k1 e1, .slice g2 k2 e2, .slice g3 k3 e3] 55)) w9.heap.size [.slice g0 k0 e0, .slice g1 k1 e1, .slice g2 k2 e2, .slice g3 k3 e3] 55 from bk_new w9 [.slice g0 k0 e0, .slice g1 k1 e1, .slice g2 k2 e2, .slice g3 k3 e3] 55)
    replace HB := hid (HB.out.trans (hn.mono HB.out.size)); replace H1 := hid (H1.out.below hn); replace HS := hid (HS.out.below hn)
    have HR4 := hid (h4.below hn)
    clear hn h4
    go_upto_region 7 with fail
    obtain ⟨ga, hga⟩ : ∃ z, w9.heap.size = z := ⟨_, rfl⟩
    simp only [hga] at *
    generalize w9.alloc (.cells #[.slice g0 k0 e0, .slice g1 k1 e1, .slice g2 k2 e2, .slice g3 k3 e3] 55) = wq at *
    have hbd := Below.drew (Below.refl wq.heap.size wq)
    replace HB := hid (HB.out.trans (hbd.mono HB.out.size)); replace H1 := hid (H1.out.below hbd); replace HS := hid (HS.out.below hbd); replace HA := hid (HA.out.below hbd); replace HR4 := hid (HR4.out.below hbd)
    clear hbd hga
    have r0 := H1.out.cell (j := 0) rfl
    have r1 := H1.out.cell (j := 1) rfl
    have r2 := H1.out.cell (j := 2) rfl
    have r3 := H1.out.cell (j := 3) rfl
    refine wp_region_held_drew (S := (fun w' => w'.cell? ⟨w.heap.size, 0, none⟩ = some (.slice a0 k0 c0) ∧ w'.cell? ⟨w.heap.size, 1, none⟩ = some (.slice a1 k1 c1) ∧ w'.cell? ⟨w.heap.size, 2, none⟩ = some (.slice a2 k2 c2) ∧ w'.cell? ⟨w.heap.size, 3, none⟩ = some (.slice a3 k3 c3))) (by kernel_rfl) ?_ (fun hHeld => ?_)
    · exact ⟨r0, r1, r2, r3⟩
    generalize wq.drew = wd at *
    clear r0 r1 r2 r3
    refine wpAnyH_take (i := 0) (v := ?_) rfl (by kernel_rfl) (by kernel_rfl) (by kernel_rfl) (fun _ _ _ h => h) (Or.inl ⟨by rfl, ?_⟩) (by assumption) ?_
    rotate_left
    (focus (intro w0 hSw; (try dsimp only at hSw); go_simp <;> with_reducible rfl))
    simp only [List.getElem_toArray, List.getElem_cons_zero, Act.put, List.setIfInBounds_toArray, List.set_cons_zero, List.set_cons_succ]
    refine wpAnyH_take (i := 1) (v := ?_) rfl (by kernel_rfl) (by kernel_rfl) (by kernel_rfl) (fun _ _ _ h => h) (Or.inl ⟨by rfl, ?_⟩) (by assumption) ?_
    rotate_left
    (focus (intro w0 hSw; (try dsimp only at hSw); go_simp <;> with_reducible rfl))
    simp only [List.getElem_toArray, List.getElem_cons_succ, List.getElem_cons_zero, Act.put, List.setIfInBounds_toArray, List.set_cons_zero, List.set_cons_succ]
    refine wpAnyH_take (i := 2) (v := ?_) rfl (by kernel_rfl) (by kernel_rfl) (by kernel_rfl) (fun _ _ _ h => h) (Or.inl ⟨by rfl, ?_⟩) (by assumption) ?_
    rotate_left
    (focus (intro w0 hSw; (try dsimp only at hSw); go_simp <;> with_reducible rfl))
    simp only [List.getElem_toArray, List.getElem_cons_succ, List.getElem_cons_zero, Act.put, List.setIfInBounds_toArray, List.set_cons_zero, List.set_cons_succ]
    refine wpAnyH_take (i := 3) (v := ?_) rfl (by kernel_rfl) (by kernel_rfl) (by kernel_rfl) (fun _ _ _ h => h) (Or.inl ⟨by rfl, ?_⟩) (by assumption) ?_
    rotate_left
    (focus (intro w0 hSw; (try dsimp only at hSw); go_simp <;> with_reducible rfl))
    simp only [List.getElem_toArray, List.getElem_cons_succ, List.getElem_cons_zero, Act.put, List.setIfInBounds_toArray, List.set_cons_zero, List.set_cons_succ]
    refine wpAnyH_take (i := 4) (v := ?_) rfl (by kernel_rfl) (by kernel_rfl) (by kernel_rfl) (fun _ _ _ h => h) (Or.inl ⟨by rfl, ?_⟩) (by assumption) ?_
    rotate_left
    (focus (intro w0 hSw; (try dsimp only at hSw); go_simp <;> with_reducible rfl))
    simp only [List.getElem_toArray, List.getElem_cons_succ, List.getElem_cons_zero, Act.put, List.setIfInBounds_toArray, List.set_cons_zero, List.set_cons_succ]
    refine wpAnyH_take (i := 7) (v := ?_) rfl (by kernel_rfl) (by kernel_rfl) (by kernel_rfl) (fun _ _ _ h => h) (Or.inl ⟨by rfl, ?_⟩) (by assumption) ?_
    rotate_left
    (focus (intro w0 hSw; (try dsimp only at hSw); go_simp <;> with_reducible rfl))
    simp only [List.getElem_toArray, List.getElem_cons_succ, List.getElem_cons_zero, Act.put, List.setIfInBounds_toArray, List.set_cons_zero, List.set_cons_succ]
    refine wpAnyH_take (i := 8) (v := ?_) rfl (by kernel_rfl) (by kernel_rfl) (by kernel_rfl) (fun _ _ _ h => h) (Or.inl ⟨by rfl, ?_⟩) (by assumption) ?_
    rotate_left
    (focus (intro w0 hSw; (try dsimp only at hSw); go_simp <;> with_reducible rfl))
    simp only [List.getElem_toArray, List.getElem_cons_succ, List.getElem_cons_zero, Act.put, List.setIfInBounds_toArray, List.set_cons_zero, List.set_cons_succ]
    refine wpAnyH_take (i := 9) (v := ?_) rfl (by kernel_rfl) (by kernel_rfl) (by kernel_rfl) (fun _ _ _ h => h) (Or.inl ⟨by rfl, ?_⟩) (by assumption) ?_
    rotate_left
    (focus (intro w0 hSw; (try dsimp only at hSw); go_simp <;> with_reducible rfl))
    simp only [List.getElem_toArray, List.getElem_cons_succ, List.getElem_cons_zero, Act.put, List.setIfInBounds_toArray, List.set_cons_zero, List.set_cons_succ]
    refine wpAnyH_take (i := 10) (v := ?_) rfl (by kernel_rfl) (by kernel_rfl) (by kernel_rfl) (fun _ _ _ h => h) (Or.inl ⟨by rfl, ?_⟩) (by assumption) ?_
    rotate_left
    (focus (intro w0 hSw; (try dsimp only at hSw); go_simp <;> with_reducible rfl))
    simp only [List.getElem_toArray, List.getElem_cons_succ, List.getElem_cons_zero, Act.put, List.setIfInBounds_toArray, List.set_cons_zero, List.set_cons_succ]
    refine wpAnyH_take (i := 11) (v := ?_) rfl (by kernel_rfl) (by kernel_rfl) (by kernel_rfl) (fun _ _ _ h => h) (Or.inl ⟨by rfl, ?_⟩) (by assumption) ?_
    rotate_left
    (focus (intro w0 hSw; (try dsimp only at hSw); go_simp <;> with_reducible rfl))
    simp only [List.getElem_toArray, List.getElem_cons_succ, List.getElem_cons_zero, Act.put, List.setIfInBounds_toArray, List.set_cons_zero, List.set_cons_succ]
    refine (show wpAnyH _ _ _ _ _ (6 + 1) _ _ _ from wpAnyH_flow (fun j v w => match j with | 5 => L2 a2 k2 c2 X2 a3 k3 c3 X3 v w | 6 => Iv (lstF n (pick2 k2 k3) (pick2 X2 X3) 2) v w | 12 => L2 a0 k0 c0 X0 a1 k1 c1 X1 v w | 13 => Iv (lstF k (pick2 k0 k1) (pick2 X0 X1) 2) v w | 14 => E2 (lstF n (pick2 k2 k3) (pick2 X2 X3) 2) (lstF k (pick2 k0 k1) (pick2 X0 X1) 2) v w | 15 => Iv 0 v w | _ => True) [(5, 57), (6, 58), (12, 64), (13, 65), (14, 66), (15, 67)] [5, 6, 12, 13, 14, 15] [16] _ _ _ 1 ?k1 ?k4 ?k2 ?k3 ?k5 ?k6 ?k8)
    case k1 => kernel_rfl
    case k4 => kernel_rfl
    case k2 => exact fun w w' h hb => ⟨kCb hb h.1, kCb hb h.2.1, kCb hb h.2.2.1, kCb hb h.2.2.2⟩
    case k3 =>
      intro j v w w' h hb
      split at h <;> first | exact L2.below h hb | exact Iv.below h hb | exact E2.below h hb | exact h | trivial
    case k8 => exact hHeld
    case k5 =>
      intro i hi
      simp only [List.mem_cons, List.not_mem_nil, or_false] at hi
      rcases hi with rfl | rfl | rfl | rfl | rfl | rfl
      · refine ⟨_, rfl, fun u w5 hS hb5 hd K hK => ?_⟩
        simp only [fill, List.foldl_cons, List.foldl_nil, Act.put, List.setIfInBounds_toArray, List.set_cons_zero, List.set_cons_succ] at hK ⊢
        go_simp
        exact hK.out _ _ (below_alloc (Below.refl _ _) _) ⟨w5.heap.size, rfl, ll_two (R2.out.below (HB.out.trans (hb5.mono HB.out.size))) (R3.out.below (HB.out.trans (hb5.mono HB.out.size))) ⟨Nat.le_trans N2.out.1 (by decide), (fun j hj => ⟨Nat.le_trans (N2.out.2 j hj).1 (by decide), Nat.le_trans (N2.out.2 j hj).2 (by decide)⟩)⟩ ⟨Nat.le_trans N3.out.1 (by decide), (fun j hj => ⟨Nat.le_trans (N3.out.2 j hj).1 (by decide), Nat.le_trans (N3.out.2 j hj).2 (by decide)⟩)⟩⟩
      · refine ⟨_, rfl, fun u w5 hS hb5 hd K hK => ?_⟩
        have hd1 : L2 a2 k2 c2 X2 a3 k3 c3 X3 (u 5) w5 := hd 5 (by kernel_rfl) (by kernel_rfl)
        obtain ⟨gb, e1, hll⟩ := hd1
        simp only [fill, List.foldl_cons, List.foldl_nil, Act.put, List.setIfInBounds_toArray, List.set_cons_zero, List.set_cons_succ] at hK ⊢
        simp only [e1] at hK ⊢
        go_simp
        go_at_call 15
        refine (lists_c hll (by decide)).mono ?_
        rintro e w6 ⟨rfl, hb6⟩
        (try go_wp2_with fail)
        exact hK.out _ _ hb6 rfl
      · refine ⟨_, rfl, fun u w5 hS hb5 hd K hK => ?_⟩
        simp only [fill, List.foldl_cons, List.foldl_nil, Act.put, List.setIfInBounds_toArray, List.set_cons_zero, List.set_cons_succ] at hK ⊢
        go_simp
        exact hK.out _ _ (below_alloc (Below.refl _ _) _) ⟨w5.heap.size, rfl, ll_two (R0.out.below (HB.out.trans (hb5.mono HB.out.size))) (R1.out.below (HB.out.trans (hb5.mono HB.out.size))) ⟨Nat.le_trans N0.out.1 (by decide), (fun j hj => ⟨Nat.le_trans (N0.out.2 j hj).1 (by decide), Nat.le_trans (N0.out.2 j hj).2 (by decide)⟩)⟩ ⟨Nat.le_trans N1.out.1 (by decide), (fun j hj => ⟨Nat.le_trans (N1.out.2 j hj).1 (by decide), Nat.le_trans (N1.out.2 j hj).2 (by decide)⟩)⟩⟩
      · refine ⟨_, rfl, fun u w5 hS hb5 hd K hK => ?_⟩
        have hd1 : L2 a0 k0 c0 X0 a1 k1 c1 X1 (u 12) w5 := hd 12 (by kernel_rfl) (by kernel_rfl)
        obtain ⟨gb, e1, hll⟩ := hd1
        simp only [fill, List.foldl_cons, List.foldl_nil, Act.put, List.setIfInBounds_toArray, List.set_cons_zero, List.set_cons_succ] at hK ⊢
        simp only [e1] at hK ⊢
        go_simp
        go_at_call 15
        refine (lists_c hll (by decide)).mono ?_
        rintro e w6 ⟨rfl, hb6⟩
        (try go_wp2_with fail)
        exact hK.out _ _ hb6 rfl
      · refine ⟨_, rfl, fun u w5 hS hb5 hd K hK => ?_⟩
        have hd1 : Iv (lstF n (pick2 k2 k3) (pick2 X2 X3) 2) (u 6) w5 := hd 6 (by kernel_rfl) (by kernel_rfl)
        have hd2 : Iv (lstF k (pick2 k0 k1) (pick2 X0 X1) 2) (u 13) w5 := hd 13 (by kernel_rfl) (by kernel_rfl)
        unfold Iv at hd1 hd2
        simp only [fill, List.foldl_cons, List.foldl_nil, Act.put, List.setIfInBounds_toArray, List.set_cons_zero, List.set_cons_succ] at hK ⊢
        simp only [hd1, hd2] at hK ⊢
        go_simp
        exact hK.out _ _ (below_alloc (Below.refl _ _) _) ⟨w5.heap.size, rfl, two_el⟩
      · refine ⟨_, rfl, fun u w5 hS hb5 hd K hK => ?_⟩
        have hd1 : E2 (lstF n (pick2 k2 k3) (pick2 X2 X3) 2) (lstF k (pick2 k0 k1) (pick2 X0 X1) 2) (u 14) w5 := hd 14 (by kernel_rfl) (by kernel_rfl)
        obtain ⟨gb, e1, hel⟩ := hd1
        simp only [fill, List.foldl_cons, List.foldl_nil, Act.put, List.setIfInBounds_toArray, List.set_cons_zero, List.set_cons_succ] at hK ⊢
        simp only [e1] at hK ⊢
        go_simp
        go_at_call 20
        refine (fLeast_c hel (by decide)).mono ?_
        rintro e w6 ⟨rfl, rfl⟩
        (try go_wp2_with fail)
        exact hK.out _ _ (Below.refl _ _) (by show Value.int _ _ = _; rw [← HEL.out]; rfl)
    case k6 =>
      intro u w5 hS5 hb5 hg
      have h15 : Iv 0 (u 15) w5 := hg 15 (by simp)
      unfold Iv at h15
      replace HB := hid (HB.out.trans (hb5.mono HB.out.size)); replace H1 := hid (H1.out.below hb5); replace HS := hid (HS.out.below hb5); replace HA := hid (HA.out.below hb5); replace HR4 := hid (HR4.out.below hb5)
      clear hg
      simp only [fill, List.foldl_cons, List.foldl_nil, Act.put, List.setIfInBounds_toArray, List.set_cons_zero, List.set_cons_succ]
      simp only [h15]
      clear h15
      refine wpAnyH_take (i := 16) (v := ?_) rfl (by kernel_rfl) (by kernel_rfl) (by kernel_rfl) (fun _ _ _ h => h) (Or.inl ⟨by rfl, ?_⟩) (by assumption) ?_
      rotate_left
      (focus (intro w0 hSw; (try dsimp only at hSw); go_simp <;> with_reducible rfl))
      simp only [List.getElem_toArray, List.getElem_cons_succ, List.getElem_cons_zero, Act.put, List.setIfInBounds_toArray, List.set_cons_zero, List.set_cons_succ]
      refine wpAnyH_done (by kernel_rfl) ?_ _
      clear hS5 hHeld hb5 HEL
      obtain ⟨f0, f1, f2, f3⟩ := ctE_zero HER.out
      obtain ⟨_, _, _, _, _, _, _, _, ee, s0, s1, s2, s3⟩ := HR4.out
      cases ee
      obtain ⟨_, _, Z0, ez0, z0, zs0⟩ := s0
      cases ez0
      obtain ⟨p0, lp0, pa0, pb0⟩ := sames_of (K := 10) (R0.out.below HB.out) z0 (fun j hj => (T0.out.2 j hj).trans (zs0 j hj)) f0 N0.out.2
      have PA0 := hid pa0; have PB0 := hid pb0; have LP0 := hid lp0
      obtain ⟨_, _, Z1, ez1, z1, zs1⟩ := s1
      cases ez1
      obtain ⟨p1, lp1, pa1, pb1⟩ := sames_of (K := 10) (R1.out.below HB.out) z1 (fun j hj => (T1.out.2 j hj).trans (zs1 j hj)) f1 N1.out.2
      have PA1 := hid pa1; have PB1 := hid pb1; have LP1 := hid lp1
      obtain ⟨_, _, Z2, ez2, z2, zs2⟩ := s2
      cases ez2
      obtain ⟨p2, lp2, pa2, pb2⟩ := sames_of (K := 10) (R2.out.below HB.out) z2 (fun j hj => (T2.out.2 j hj).trans (zs2 j hj)) f2 N2.out.2
      have PA2 := hid pa2; have PB2 := hid pb2; have LP2 := hid lp2
      obtain ⟨_, _, Z3, ez3, z3, zs3⟩ := s3
      cases ez3
      obtain ⟨p3, lp3, pa3, pb3⟩ := sames_of (K := 10) (R3.out.below HB.out) z3 (fun j hj => (T3.out.2 j hj).trans (zs3 j hj)) f3 N3.out.2
      have PA3 := hid pa3; have PB3 := hid pb3; have LP3 := hid lp3
      clear z0 zs0 pa0 pb0 lp0 f0 z1 zs1 pa1 pb1 lp1 f1 z2 zs2 pa2 pb2 lp2 f2 z3 zs3 pa3 pb3 lp3 f3
      have l0 := HA.out.cell (j := 0) rfl
      have l1 := HA.out.cell (j := 1) rfl
      have l2 := HA.out.cell (j := 2) rfl
      have l3 := HA.out.cell (j := 3) rfl
      have r0 := H1.out.cell (j := 0) rfl
      have r1 := H1.out.cell (j := 1) rfl
      have r2 := H1.out.cell (j := 2) rfl
      have r3 := H1.out.cell (j := 3) rfl
      go_wp2_with fail
      refine (sameCt_c PB0.out PA0.out LP0.out (Nat.le_trans N0.out.1 (by decide)) PB1.out PA1.out LP1.out (Nat.le_trans N1.out.1 (by decide)) PB2.out PA2.out LP2.out (Nat.le_trans N2.out.1 (by decide)) PB3.out PA3.out LP3.out (Nat.le_trans N3.out.1 (by decide)) (by decide) (by decide)).mono ?_
      rintro e w20 ⟨rfl, hb20⟩
      replace HB := hid (HB.out.trans (hb20.mono HB.out.size))
      clear hb20
      go_wp2
      go_ret
      exact ⟨rfl, HB.out⟩
end Go.Proofs.Ytllpllebmknmpaa

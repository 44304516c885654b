/-
  The walk of stack.copied. The walks of stack.back without steps, of stack.copiedPoint, and of the reference's Twin of points and of certificates (written by makers/o3.py). The walks of stack's numbers, Primal, Lift, checkPoint and Dual, of a stack without steps (written by makers/o4.py). The reference's Same and Sames of lists with the same values. The walk of law17's awake, and of StackNew (written by makers/o5.py).
-/
import Derived.Test.YtllpllebmknmpaaZ3
import Derived.Deep.RegionHeld3
import Derived.BigQuiet
namespace Go.Proofs.Ytllpllebmknmpaa
open Go.RowKit

/-- The first i of k numbers are copied into block B. -/
structure Cp (w : World) (base B i k : Nat) (X X' : Nat → Nm) : Prop where
  row : Rk w B k
  ge : base ≤ B
  el : ∀ j, j < i → C3 w B (j * 3) (.bool (X' j).s) (.slice (X' j).x (X' j).n (X' j).c) (.slice (X' j).y (X' j).m (X' j).d) ∧ Cn w base (X j) (X' j)
theorem Cp.below {w w' base B i k X X'} (h : Cp w base B i k X X') (hb : Below w.heap.size w w') : Cp w' base B i k X X' :=
  ⟨h.row.below hb, h.ge, fun j hj => ⟨(h.el j hj).1.below hb, (h.el j hj).2.below hb⟩⟩
theorem Cp.put {w base B i k X X'} {t : Nm} (h : Cp w base B i k X X') (hi : i < k) (ht : Cn w base (X i) t) :
    Cp (((w.setCell ⟨B, i * 3, none⟩ (.bool t.s)).setCell ⟨B, i * 3 + 1, none⟩ (.slice t.x t.n t.c)).setCell ⟨B, i * 3 + 2, none⟩ (.slice t.y t.m t.d)) base B (i + 1) k X (putN X' i t) := by
  have k1 := h.row.set (o := i * 3) (u := .bool t.s) (fun i h => by cases h)
  have k2 := k1.set (o := i * 3 + 1) (u := .slice t.x t.n t.c) (fun i h => by cases h)
  have k3 := k2.set (o := i * 3 + 2) (u := .slice t.y t.m t.d) (fun i h => by cases h)
  obtain ⟨_, a0, n0⟩ := h.row.has (i * 3) (by omega)
  obtain ⟨_, a1, n1⟩ := k1.has (i * 3 + 1) (by omega)
  obtain ⟨_, a2, n2⟩ := k2.has (i * 3 + 2) (by omega)
  refine ⟨k3, h.ge, fun j hj => ?_⟩
  by_cases e : j = i
  · subst e
    rw [putN_at]
    exact ⟨⟨kCo (by omega) (kCo (by omega) (kCe (kI0 a0))), kCo (by omega) (kCe (kI0 a1)), kCe (kI0 a2)⟩, ((ht.set a0 n0).set a1 n1).set a2 n2⟩
  · rw [putN_ne e]
    obtain ⟨⟨c0, c1, c2⟩, ht'⟩ := h.el j (by omega)
    exact ⟨⟨kCo (by omega) (kCo (by omega) (kCo (by omega) c0)), kCo (by omega) (kCo (by omega) (kCo (by omega) c1)), kCo (by omega) (kCo (by omega) (kCo (by omega) c2))⟩, ((ht'.set a0 n0).set a1 n1).set a2 n2⟩
/-- What copied answers. -/
def CpAns (w w' : World) (e : Ending) (k : Nat) (X : Nat → Nm) : Prop := ∃ B X', e = .returned (.slice (some ⟨B, 0, none⟩) k k) ∧ Below w.heap.size w w' ∧ Hid (Cp w' w.heap.size B k k X X')
set_option maxRecDepth 100000 in
set_option maxHeartbeats 4000000 in
theorem copied_c {w : World} {ao : Option Addr} {k cap : Nat} {X : Nat → Nm} (h : Rl w ao k X) (hk : k ≤ 1048576) :
    Calls Try.prog 44 #[.slice ao k cap] w fun e w' => CpAns w w' e k X := by
  have H := hid h
  clear h
  go_enter Try.func44, Try.ntmps44
  go_wp2_with (at_make; refine wpList_make_rk _ rfl (.tmp 7) (.tmp 7) 30 rfl 66 56 Try.underlying30 Try.infoRat .i64 .i64 k k k rfl rfl rfl rfl (by omega) (by unfold maxLen; omega) ?_; intro w3 hk3 hb3)
  have HB3 := hid hb3; have HK3 := hid hk3
  clear hk3 hb3
  go_loopw [11] (fun t wr => ∃ (i : Nat) (X' : Nat → Nm), i ≤ k ∧ t = .int .i64 i ∧ Hid (Below w.heap.size w wr) ∧ Hid (Cp wr w.heap.size w.heap.size i k X X')) (fun t _ => k - (intOf t).toNat)
  case atStart => exact ⟨0, X, by omega, rfl, HB3, HK3.out, Nat.le_refl _, fun j hj => by omega⟩
  case round =>
    clear HB3 HK3
    obtain ⟨i, X', hi, rfl, HB, HC⟩ := hrel
    by_cases hlt : i < k
    · obtain ⟨b, o, rfl, hc, hn, hn1, hn2⟩ := (H.out.below HB.out) i hlt
      obtain ⟨⟨s, x, n, c, f, y, m, d, g⟩, hTi⟩ : ∃ t, X i = t := ⟨_, rfl⟩
      rw [hTi] at hc hn hn1 hn2
      obtain ⟨x0, x1, x2⟩ := hc
      replace x0 : wr.cell? ⟨b, o + i * 3, none⟩ = some (.bool s) := x0
      replace x1 : wr.cell? ⟨b, o + i * 3 + 1, none⟩ = some (.slice x n c) := x1
      replace x2 : wr.cell? ⟨b, o + i * 3 + 2, none⟩ = some (.slice y m d) := x2
      replace hn : Rw wr x n c f y m d g := hn
      replace hn1 : n ≤ 65536 := hn1
      replace hn2 : m ≤ 65536 := hn2
      have i1 : ((i : Nat) : Int) < ((k : Nat) : Int) := by omega
      have hb5 := below_alloc (Below.refl wr.heap.size wr) (.cells #[.bool s, .slice x n c, .slice y m d] 66)
      have HN := hid (hn.below hb5); have HTi := hid hTi; have HC5 := hid (HC.out.below hb5); have HB5 := hid (HB.out.trans (hb5.mono HB.out.size))
      have NX := hid hn
      clear hn hTi hb5
      go_wp2_with fail
      clear x0 x1 x2 HB HC
      generalize wr.alloc (.cells #[.bool s, .slice x n c, .slice y m d] 66) = w5 at *
      refine (rCopy_o (sa := s) HN.out (Nat.le_trans hn1 (by decide)) (Nat.le_trans hn2 (by decide))).mono ?_
      rintro e w6 ⟨z6, c6, z7, c7, rfl, hb6, HQ⟩
      have HB6 := hid (HB5.out.trans (hb6.mono HB5.out.size)); have hc6 := HC5.out.below hb6
      have hcn : Cn w6 w.heap.size (X i) ⟨s, z6, n, c6, f, z7, m, c7, g⟩ := by
        rw [HTi.out]
        have q1 := HQ.out.1.slice; have q2 := HQ.out.2.slice
        exact ⟨⟨rfl, rfl, rfl, rfl, rfl⟩, ⟨q1.2.2.2.1, NX.out.lx, ⟨q1.1, q1.2.1⟩, q1.2.2.1, q2.2.2.2.1, NX.out.ly, ⟨q2.1, q2.2.1⟩, q2.2.2.1⟩, own_dw (HQ.out.2.base HB5.out.size)⟩
      have HP := hid (hc6.put hlt hcn)
      obtain ⟨_, a0, _⟩ := hc6.row.has (i * 3) (by omega)
      obtain ⟨_, a1, _⟩ := hc6.row.has (i * 3 + 1) (by omega)
      obtain ⟨_, a2, _⟩ := hc6.row.has (i * 3 + 2) (by omega)
      have hfz := hc6.row.fz
      clear hb6 HB5 HC5 HN HQ hcn hc6 NX
      go_wp2
      go_roundw
      case rel => exact ⟨i + 1, _, by omega, by go_num, below_at HB6.out (Nat.le_refl _), HP.out⟩
      case measure => simp [intOf]; omega
    · have e1 : i = k := by omega
      have i1 : ¬ (((i : Nat) : Int) < ((k : Nat) : Int)) := by omega
      rw [e1] at HC
      clear e1
      go_wp2
      go_ret
      exact ⟨_, X', rfl, HB.out, HC.out⟩
end Go.Proofs.Ytllpllebmknmpaa
namespace Go.Proofs.Ytllpllebmknmpaa
open Go.RowKit

theorem Dw.kp {w w' base y m} (h : Dw w base y m) (hk : Kp w w') : Dw w' base y m := fun hm => by
  obtain ⟨b, h1, h2, ⟨q, h3⟩, h4⟩ := h hm
  have hl := World.block_lt_of_cell? w _ h3
  rcases hk.block b hl with e | ⟨cur, t, fr, e, hu⟩
  · exact ⟨b, h1, h2, ⟨q, (World.cell?_of_block (a := ⟨b, 0, none⟩) e).trans h3⟩, by simp only [World.frozen?, e] at h4 ⊢; exact h4⟩
  · exfalso
    simp only [World.cell?, e] at h3
    exact hu 0 q (by simpa using h3)
theorem Dw.low {w base base' y m} (h : Dw w base y m) (hb : base' ≤ base) : Dw w base' y m := fun hm => by
  obtain ⟨b, h1, h2, h3⟩ := h hm
  exact ⟨b, h1, Nat.le_trans hb h2, h3⟩
theorem Rk.of {w w' B k} (h : Rk w B k) (hB : w'.heap[B]? = w.heap[B]?) : Rk w' B k :=
  ⟨(by
    have h1 := h.z
    rcases Nat.lt_or_ge B w'.heap.size with h2 | h2
    · exact h2
    · rw [Array.getElem?_eq_none h2, Array.getElem?_eq_getElem h1] at hB; cases hB), fun o ho => by obtain ⟨u, h1, h2⟩ := h.has o ho; exact ⟨u, (World.cell?_of_block (a := ⟨B, o, none⟩) hB).trans h1, h2⟩, fun o => by have := h.fz o; simp only [World.frozen?, hB] at this ⊢; exact this⟩
theorem Cp.kp {w w' base B i k X X'} (h : Cp w base B i k X X') (hk : Kp w w') (hB : w'.heap[B]? = w.heap[B]?) : Cp w' base B i k X X' :=
  ⟨h.row.of hB, h.ge, fun j hj => by
    obtain ⟨⟨c0, c1, c2⟩, h1, h2, h3⟩ := h.el j hj
    exact ⟨⟨(World.cell?_of_block (a := ⟨B, j * 3, none⟩) hB).trans c0, (World.cell?_of_block (a := ⟨B, j * 3 + 1, none⟩) hB).trans c1, (World.cell?_of_block (a := ⟨B, j * 3 + 2, none⟩) hB).trans c2⟩, h1, h2.kp hk, h3.kp hk⟩⟩
theorem Cp.low {w base base' B i k X X'} (h : Cp w base B i k X X') (hb : base' ≤ base) : Cp w base' B i k X X' :=
  ⟨h.row, Nat.le_trans hb h.ge, fun j hj => ⟨(h.el j hj).1, (h.el j hj).2.1, (h.el j hj).2.2.1, (h.el j hj).2.2.2.low hb⟩⟩
/-- A list of numbers stays where a box that holds no truth value is written. -/
theorem Rl.st {w w' : World} {ao : Option Addr} {k B : Nat} {X : Nat → Nm} (h : Rl w ao k X) (hk : Kp w w') (hne : ∀ b, b ≠ B → w'.heap[b]? = w.heap[b]?) (hnb : ∀ o s, w.cell? ⟨B, o, none⟩ ≠ some (.bool s)) : Rl w' ao k X := fun j hj => by
  obtain ⟨b, o, e, ⟨c0, c1, c2⟩, h1, h2⟩ := h j hj
  have hB : b ≠ B := fun e => hnb _ _ (e ▸ c0)
  have hs := hne b hB
  exact ⟨b, o, e, ⟨(World.cell?_of_block (a := ⟨b, o + j * 3, none⟩) hs).trans c0, (World.cell?_of_block (a := ⟨b, o + j * 3 + 1, none⟩) hs).trans c1, (World.cell?_of_block (a := ⟨b, o + j * 3 + 2, none⟩) hs).trans c2⟩, h1.kp hk, h2⟩
theorem backL_c {w : World} {B : Nat} {n k : Int} (h : Sk w B n k) (fv : Value) (ao : Option Addr) (l cap : Nat) :
    Calls Try.prog 49 #[.pointer (some ⟨B, 0, none⟩), fv, .slice ao l cap] w fun e w' => e = .returned (.slice ao l cap) ∧ w' = w := by
  have c4 := h.c4
  clear h
  go_enter Try.func49, Try.ntmps49
  go_wp2_with fail
  go_loopw [2, 7] (fun a t wr => a = .slice ao l cap ∧ t = .pointer none ∧ wr = w) (fun _ _ _ => 0)
  case atStart => exact ⟨rfl, rfl, rfl⟩
  case round =>
    obtain ⟨rfl, rfl, rfl⟩ := hrel
    go_wp2
    go_ret
    exact ⟨rfl, rfl⟩

end Go.Proofs.Ytllpllebmknmpaa
namespace Go.Proofs.Ytllpllebmknmpaa
open Go.RowKit

/-- What Primal and Lift answer: the list itself, copied, or its error. -/
def NumAns (w w' : World) (e : Ending) (l : Nat) (X : Nat → Nm) (z : Int) : Prop := Below w.heap.size w w' ∧
  ((pnE l X z ≠ 0 ∧ e = .returned (.tuple #[.slice none 0 0, .int .i64 (pnE l X z)])) ∨ (pnE l X z = 0 ∧ ∃ g Y, e = .returned (.tuple #[.slice (some ⟨g, 0, none⟩) l l, .int .i64 0]) ∧ Cp w' w.heap.size g l l X Y))
set_option maxRecDepth 100000 in
set_option maxHeartbeats 4000000 in
theorem snumbers_c {w : World} {B : Nat} {n k : Int} {ao : Option Addr} {l cap : Nat} {X : Nat → Nm} (hs : Sk w B n k) (h : Rl w ao l X) (hl : l ≤ 1048576) (fv : Value) :
    Calls Try.prog 32 #[.pointer (some ⟨B, 0, none⟩), fv, .slice ao l cap] w fun e w' => NumAns w w' e l X n := by
  have H := hid h; have HS := hid hs
  have c2 := hs.c2
  clear h hs
  obtain ⟨er, her⟩ : ∃ e, pnE l X n = e := ⟨_, rfl⟩
  have HE := hid her
  have CN := hid (pNumbers_c (cap := cap) (z := n) H.out hl)
  rw [her] at CN
  clear her
  go_enter Try.func32, Try.ntmps32
  go_wp2_with fail
  refine CN.out.mono ?_
  rintro e w1 ⟨rfl, hb1⟩
  have HB1 := hid hb1
  clear hb1 c2
  by_cases h0 : er = 0
  · subst h0
    go_wp2_with fail
    refine (copied_c (cap := cap) (H.out.below HB1.out) hl).mono ?_
    rintro e w2 ⟨g, Y, rfl, hb2, HC⟩
    have HB2 := hid (HB1.out.trans (hb2.mono HB1.out.size))
    clear hb2
    go_wp2_with fail
    refine (backL_c (HS.out.below HB2.out) fv _ l l).mono ?_
    rintro e w3 ⟨rfl, rfl⟩
    go_wp2
    go_ret2
    exact ⟨HB2.out, .inr ⟨HE.out, g, Y, rfl, HC.out.low HB1.out.size⟩⟩
  · have h1 : (er != 0) = true := by simpa using h0
    go_wp2
    go_ret2
    exact ⟨HB1.out, .inl ⟨by rw [HE.out]; exact h0, by rw [HE.out]; rfl⟩⟩
theorem sprimal_c {w : World} {B : Nat} {n k : Int} {ao : Option Addr} {l cap : Nat} {X : Nat → Nm} (hs : Sk w B n k) (h : Rl w ao l X) (hl : l ≤ 1048576) :
    Calls Try.prog 13 #[.pointer (some ⟨B, 0, none⟩), .slice ao l cap] w fun e w' => NumAns w w' e l X n := by
  have H := hid h; have HS := hid hs
  clear h hs
  go_enter Try.func13, Try.ntmps13
  go_wp2_with fail
  refine (snumbers_c HS.out H.out hl _).mono ?_
  rintro e w1 ⟨hb1, ⟨h0, rfl⟩ | ⟨h0, g, Y, rfl, hc⟩⟩
  · have HB := hid hb1; have H0 := hid h0
    clear hb1 h0
    go_wp2
    go_ret2
    exact ⟨HB.out, .inl ⟨H0.out, rfl⟩⟩
  · have HB := hid hb1; have H0 := hid h0; have HC := hid hc
    clear hb1 h0 hc
    go_wp2
    go_ret2
    exact ⟨HB.out, .inr ⟨H0.out, g, Y, rfl, HC.out⟩⟩
end Go.Proofs.Ytllpllebmknmpaa
namespace Go.Proofs.Ytllpllebmknmpaa
open Go.RowKit

theorem rSameEq_c {L L' w sa xa na ca fa ya ma da ga sb xb nb cb fb yb mb db gb q} (ha : Rn L w sa xa na ca fa ya ma da ga q) (hb : Rn L' w sb xb nb cb fb yb mb db gb q) (h1 : L ≤ 1048576) (h2 : L' ≤ 1048576) :
    Calls Try.prog 30 #[.agg #[.bool sa, .slice xa na ca, .slice ya ma da], .agg #[.bool sb, .slice xb nb cb, .slice yb mb db]] w fun e w' => e = .returned (.bool true) ∧ Below w.heap.size w w' := by
  have l1 := ha.ln; have l2 := ha.ld; have l3 := hb.ln; have l4 := hb.ld
  refine (rSame_c sa xa ya na ca ma da fa ga sb xb yb nb cb mb db fb gb w ha.num.rd ha.den.rd hb.num.rd hb.den.rd (by omega) (by omega) (by omega) (by omega)).mono ?_
  rintro e w' ⟨c, rfl, h3, h4⟩
  refine ⟨?_, h3⟩
  rw [h4.2 ((ha.inj hb).2 rfl)]

end Go.Proofs.Ytllpllebmknmpaa
namespace Go.Proofs.Ytllpllebmknmpaa
open Go.RowKit

theorem rl_one {w : World} {t : Nm} (h : NmR w t) : Rl (w.alloc (.cells #[.bool t.s, .slice t.x t.n t.c, .slice t.y t.m t.d] 66)) (some ⟨w.heap.size, 0, none⟩) 1 (fun _ => t) := fun j hj => by
  obtain rfl : j = 0 := by omega
  exact ⟨_, 0, rfl, ⟨by simp [go_sem], by simp [go_sem], by simp [go_sem]⟩, h.below (below_alloc (Below.refl _ _) _)⟩
theorem rl_two {w : World} {t u : Nm} (h : NmR w t) (h2 : NmR w u) : Rl (w.alloc (.cells #[.bool t.s, .slice t.x t.n t.c, .slice t.y t.m t.d, .bool u.s, .slice u.x u.n u.c, .slice u.y u.m u.d] 66)) (some ⟨w.heap.size, 0, none⟩) 2 (fun j => if j = 0 then t else u) := fun j hj => by
  rcases (show j = 0 ∨ j = 1 by omega) with rfl | rfl
  · exact ⟨_, 0, rfl, ⟨by simp [go_sem], by simp [go_sem], by simp [go_sem]⟩, h.below (below_alloc (Below.refl _ _) _)⟩
  · exact ⟨_, 0, rfl, ⟨by simp [go_sem], by simp [go_sem], by simp [go_sem]⟩, h2.below (below_alloc (Below.refl _ _) _)⟩
set_option maxRecDepth 100000 in
set_option maxHeartbeats 8000000 in
theorem awake17_c (w : World) : Calls Try.prog 8 #[] w fun e w' => e = .returned (.bool true) ∧ Below w.heap.size w w' := by
  go_enter Try.func8, Try.ntmps8
  go_wp2_with fail
  refine (snew_c (n := 2) (k := 1) (by decide) (by decide) (by decide) (by decide)).mono ?_
  rintro e w1 ⟨B, rfl, hb1, hs1⟩
  have HB1 := hid hb1; have HS1 := hid hs1.out.2
  clear hb1 hs1
  go_wp2_with fail
  refine (ssize_c HS1.out).mono ?_
  rintro e w2 ⟨rfl, hb2⟩
  have HB2 := hid (HB1.out.trans (hb2.mono HB1.out.size)); have HS2 := hid (HS1.out.below hb2)
  clear hb2 HB1 HS1
  go_wp2_with fail
  refine (docOfQ_c (z := 1) (by decide) (by decide)).mono ?_
  rintro e w3 ⟨s1, x1, n1, c1, f1, y1, m1, d1, g1, rfl, hb3, h1⟩
  have HB3 := hid (HB2.out.trans (hb3.mono HB2.out.size)); have HS3 := hid (HS2.out.below hb3); have HR1 := hid h1
  clear hb3 h1 HB2 HS2
  go_wp2_with fail
  refine (docOfQ_c (z := 2) (by decide) (by decide)).mono ?_
  rintro e w4 ⟨s2, x2, n2, c2, f2, y2, m2, d2, g2, rfl, hb4, h2⟩
  have HB4 := hid (HB3.out.trans (hb4.mono HB3.out.size)); have HS4 := hid (HS3.out.below hb4); replace HR1 := hid (HR1.out.below hb4); have HR2 := hid h2
  clear hb4 h2 HB3 HS3
  have hx := rl_two (Rn.nm (t := ⟨s1, x1, n1, c1, f1, y1, m1, d1, g1⟩) HR1.out (by decide)).1 (Rn.nm (t := ⟨s2, x2, n2, c2, f2, y2, m2, d2, g2⟩) HR2.out (by decide)).1
  have hf : pnE 2 (fun j => if j = 0 then (⟨s1, x1, n1, c1, f1, y1, m1, d1, g1⟩ : Nm) else ⟨s2, x2, n2, c2, f2, y2, m2, d2, g2⟩) 2 = 0 := by
    have a1 := (Rn.nm (t := ⟨s1, x1, n1, c1, f1, y1, m1, d1, g1⟩) HR1.out (by decide)).2; have a2 := (Rn.nm (t := ⟨s2, x2, n2, c2, f2, y2, m2, d2, g2⟩) HR2.out (by decide)).2
    have a3 : afB 2 (fun j => if j = 0 then (⟨s1, x1, n1, c1, f1, y1, m1, d1, g1⟩ : Nm) else ⟨s2, x2, n2, c2, f2, y2, m2, d2, g2⟩) = true := by
      show (nfB ⟨s1, x1, n1, c1, f1, y1, m1, d1, g1⟩ && (nfB ⟨s2, x2, n2, c2, f2, y2, m2, d2, g2⟩ && true)) = true
      rw [a1, a2]; rfl
    rw [pnE, a3]; rfl
  have hb5 := below_alloc (Below.refl w4.heap.size w4) (.cells #[.bool s1, .slice x1 n1 c1, .slice y1 m1 d1, .bool s2, .slice x2 n2 c2, .slice y2 m2 d2] 66)
  replace hx : Rl (w4.alloc (.cells #[.bool s1, .slice x1 n1 c1, .slice y1 m1 d1, .bool s2, .slice x2 n2 c2, .slice y2 m2 d2] 66)) (some ⟨w4.heap.size, 0, none⟩) 2 (fun j => if j = 0 then ⟨s1, x1, n1, c1, f1, y1, m1, d1, g1⟩ else ⟨s2, x2, n2, c2, f2, y2, m2, d2, g2⟩) := hx
  have HX := hid hx; have HF := hid hf; have HB5 := hid (HB4.out.trans (hb5.mono HB4.out.size)); have HS5 := hid (HS4.out.below hb5); replace HR2 := hid (HR2.out.below hb5)
  clear hx hf hb5 HB4 HS4 HR1
  go_wp2_with fail
  generalize w4.alloc (.cells #[.bool s1, .slice x1 n1 c1, .slice y1 m1 d1, .bool s2, .slice x2 n2 c2, .slice y2 m2 d2] 66) = w5 at *
  refine (sprimal_c (cap := 2) HS5.out HX.out (by decide)).mono ?_
  rintro e w6 ⟨hb6, ⟨h0, _⟩ | ⟨_, g, Y, rfl, hc⟩⟩
  · exact absurd HF.out h0
  have hel := hc.el 1 (by decide)
  obtain ⟨hy, hsn, hrw, _⟩ := hel
  obtain ⟨⟨s3, x3, n3, c3, f3, y3, m3, d3, g3⟩, hY⟩ : ∃ t, Y 1 = t := ⟨_, rfl⟩
  rw [hY] at hy hsn hrw
  have HR3 : Hid (Rn 4 w6 s3 x3 n3 c3 f3 y3 m3 d3 g3 ((2 : Int) : Rat)) := Rn.sn (t := ⟨s2, x2, n2, c2, f2, y2, m2, d2, g2⟩) (t' := ⟨s3, x3, n3, c3, f3, y3, m3, d3, g3⟩) HR2.out hsn hrw
  have HY : Hid (C3 w6 g (1 * 3) (.bool s3) (.slice x3 n3 c3) (.slice y3 m3 d3)) := hy
  have HB6 := hid (HB5.out.trans (hb6.mono HB5.out.size)); have HS6 := hid (HS5.out.below hb6)
  clear hb6 hc hy hsn hrw hY HB5 HS5 HR2 HX HF
  go_wp2_with fail
  refine (docOfQ_c (z := 1) (by decide) (by decide)).mono ?_
  rintro e w7 ⟨s4, x4, n4, c4, f4, y4, m4, d4, g4, rfl, hb7, h4⟩
  have HB7 := hid (HB6.out.trans (hb7.mono HB6.out.size)); have HS7 := hid (HS6.out.below hb7); replace HR3 := hid (HR3.out.below hb7); replace HY := hid (HY.out.below hb7)
  have hx := rl_one (Rn.nm (t := ⟨s4, x4, n4, c4, f4, y4, m4, d4, g4⟩) h4 (by decide)).1
  have hf : pnE 1 (fun _ => (⟨s4, x4, n4, c4, f4, y4, m4, d4, g4⟩ : Nm)) 2 = 7 := by
    have a1 := (Rn.nm (t := ⟨s4, x4, n4, c4, f4, y4, m4, d4, g4⟩) h4 (by decide)).2
    have a3 : afB 1 (fun _ => (⟨s4, x4, n4, c4, f4, y4, m4, d4, g4⟩ : Nm)) = true := by
      show (nfB ⟨s4, x4, n4, c4, f4, y4, m4, d4, g4⟩ && true) = true
      rw [a1]; rfl
    rw [pnE, a3]; rfl
  have hb8 := below_alloc (Below.refl w7.heap.size w7) (.cells #[.bool s4, .slice x4 n4 c4, .slice y4 m4 d4] 66)
  replace hx : Rl (w7.alloc (.cells #[.bool s4, .slice x4 n4 c4, .slice y4 m4 d4] 66)) (some ⟨w7.heap.size, 0, none⟩) 1 (fun _ => ⟨s4, x4, n4, c4, f4, y4, m4, d4, g4⟩) := hx
  have HX := hid hx; have HF := hid hf; have HB8 := hid (HB7.out.trans (hb8.mono HB7.out.size)); have HS8 := hid (HS7.out.below hb8); replace HR3 := hid (HR3.out.below hb8); replace HY := hid (HY.out.below hb8)
  clear hx hf hb7 hb8 h4 HB6 HS6 HB7 HS7
  go_wp2_with fail
  generalize w7.alloc (.cells #[.bool s4, .slice x4 n4 c4, .slice y4 m4 d4] 66) = w8 at *
  refine (sprimal_c (cap := 1) HS8.out HX.out (by decide)).mono ?_
  rintro e w9 ⟨hb9, ⟨h0, rfl⟩ | ⟨h0, _⟩⟩
  case inr => rw [HF.out] at h0; cases h0
  rw [HF.out]
  have HB9 := hid (HB8.out.trans (hb9.mono HB8.out.size)); have HS9 := hid (HS8.out.below hb9); replace HR3 := hid (HR3.out.below hb9); replace HY := hid (HY.out.below hb9)
  clear hb9 h0 HB8 HS8 HX HF
  go_wp2_with fail
  refine (snewE_c (n := 65) (k := 0) (by decide)).mono ?_
  rintro e w10 ⟨rfl, rfl⟩
  obtain ⟨r0, r1, r2⟩ := HY.out
  clear HY
  go_upto_region 8 with fail
  have hbd := Below.drew (Below.refl w10.heap.size w10)
  replace HB9 := hid (HB9.out.trans (hbd.mono HB9.out.size)); replace HS9 := hid (HS9.out.below hbd); replace HR3 := hid (HR3.out.below hbd)
  replace r0 : w10.drew.cell? ⟨g, 3, none⟩ = some (.bool s3) := kCb hbd r0
  replace r1 : w10.drew.cell? ⟨g, 4, none⟩ = some (.slice x3 n3 c3) := kCb hbd r1
  replace r2 : w10.drew.cell? ⟨g, 5, none⟩ = some (.slice y3 m3 d3) := kCb hbd r2
  clear hbd
  refine wp_region_held_drew (S := (fun w' => w'.cell? ⟨g, 3, none⟩ = some (.bool s3) ∧ w'.cell? ⟨g, 4, none⟩ = some (.slice x3 n3 c3) ∧ w'.cell? ⟨g, 5, none⟩ = some (.slice y3 m3 d3))) (by kernel_rfl) ?_ (fun hHeld => ?_)
  · exact ⟨r0, r1, r2⟩
  generalize w10.drew = wd at *
  refine wpAnyH_take (i := 0) (v := ?_) rfl (by kernel_rfl) (by kernel_rfl) (by kernel_rfl) (fun _ _ _ h => h) (Or.inl ⟨by rfl, ?_⟩) (by assumption) ?_
  rotate_left
  (focus (intro w0 hSw; (try dsimp only at hSw); go_simp <;> with_reducible rfl))
  simp only [List.getElem_toArray, List.getElem_cons_zero, Act.put, List.setIfInBounds_toArray, List.set_cons_zero, List.set_cons_succ]
  refine wpAnyH_take (i := 1) (v := ?_) rfl (by kernel_rfl) (by kernel_rfl) (by kernel_rfl) (fun _ _ _ h => h) (Or.inl ⟨by rfl, ?_⟩) (by assumption) ?_
  rotate_left
  (focus (intro w0 hSw; (try dsimp only at hSw); go_simp <;> with_reducible rfl))
  simp only [List.getElem_toArray, List.getElem_cons_succ, List.getElem_cons_zero, Act.put, List.setIfInBounds_toArray, List.set_cons_zero, List.set_cons_succ]
  refine wpAnyH_take (i := 2) (v := ?_) rfl (by kernel_rfl) (by kernel_rfl) (by kernel_rfl) (fun _ _ _ h => h) (Or.inl ⟨by rfl, ?_⟩) (by assumption) ?_
  rotate_left
  (focus (intro w0 hSw; (try dsimp only at hSw); go_simp <;> with_reducible rfl))
  simp only [List.getElem_toArray, List.getElem_cons_succ, List.getElem_cons_zero, Act.put, List.setIfInBounds_toArray, List.set_cons_zero, List.set_cons_succ]
  refine wpAnyH_take (i := 3) (v := ?_) rfl (by kernel_rfl) (by kernel_rfl) (by kernel_rfl) (fun _ _ _ h => h) (Or.inl ⟨by rfl, ?_⟩) (by assumption) ?_
  rotate_left
  (focus (intro w0 hSw; (try dsimp only at hSw); go_simp <;> with_reducible rfl))
  simp only [List.getElem_toArray, List.getElem_cons_succ, List.getElem_cons_zero, Act.put, List.setIfInBounds_toArray, List.set_cons_zero, List.set_cons_succ]
  refine wpAnyH_take (i := 4) (v := ?_) rfl (by kernel_rfl) (by kernel_rfl) (by kernel_rfl) (fun _ _ _ h => h) (Or.inl ⟨by rfl, ?_⟩) (by assumption) ?_
  rotate_left
  (focus (intro w0 hSw; (try dsimp only at hSw); go_simp <;> with_reducible rfl))
  simp only [List.getElem_toArray, List.getElem_cons_succ, List.getElem_cons_zero, Act.put, List.setIfInBounds_toArray, List.set_cons_zero, List.set_cons_succ]
  refine wpAnyH_take (i := 5) (v := ?_) rfl (by kernel_rfl) (by kernel_rfl) (by kernel_rfl) (fun _ _ _ h => h) (Or.inl ⟨by rfl, ?_⟩) (by assumption) ?_
  rotate_left
  (focus (intro w0 hSw; (try dsimp only at hSw); go_simp <;> with_reducible rfl))
  simp only [List.getElem_toArray, List.getElem_cons_succ, List.getElem_cons_zero, Act.put, List.setIfInBounds_toArray, List.set_cons_zero, List.set_cons_succ]
  refine wpAnyH_take (i := 6) (v := ?_) rfl (by kernel_rfl) (by kernel_rfl) (by kernel_rfl) (fun _ _ _ h => h) (Or.inl ⟨by rfl, ?_⟩) (by assumption) ?_
  rotate_left
  (focus (intro w0 hSw; (try dsimp only at hSw); go_simp <;> with_reducible rfl))
  simp only [List.getElem_toArray, List.getElem_cons_succ, List.getElem_cons_zero, Act.put, List.setIfInBounds_toArray, List.set_cons_zero, List.set_cons_succ]
  refine wpAnyH_take (i := 7) (v := ?_) rfl (by kernel_rfl) (by kernel_rfl) (by kernel_rfl) (fun _ _ _ h => h) (Or.inl ⟨by rfl, ?_⟩) (by assumption) ?_
  rotate_left
  (focus (intro w0 hSw; (try dsimp only at hSw); go_simp <;> with_reducible rfl))
  simp only [List.getElem_toArray, List.getElem_cons_succ, List.getElem_cons_zero, Act.put, List.setIfInBounds_toArray, List.set_cons_zero, List.set_cons_succ]
  refine wpAnyH_take (i := 8) (v := ?_) rfl (by kernel_rfl) (by kernel_rfl) (by kernel_rfl) (fun _ _ _ h => h) (Or.inl ⟨by rfl, ?_⟩) (by assumption) ?_
  rotate_left
  (focus (intro w0 hSw; (try dsimp only at hSw); go_simp <;> with_reducible rfl))
  simp only [List.getElem_toArray, List.getElem_cons_succ, List.getElem_cons_zero, Act.put, List.setIfInBounds_toArray, List.set_cons_zero, List.set_cons_succ]
  refine wpAnyH_take (i := 9) (v := ?_) rfl (by kernel_rfl) (by kernel_rfl) (by kernel_rfl) (fun _ _ _ h => h) (Or.inl ⟨by rfl, ?_⟩) (by assumption) ?_
  rotate_left
  (focus (intro w0 hSw; (try dsimp only at hSw); go_simp <;> with_reducible rfl))
  simp only [List.getElem_toArray, List.getElem_cons_succ, List.getElem_cons_zero, Act.put, List.setIfInBounds_toArray, List.set_cons_zero, List.set_cons_succ]
  refine wpAnyH_take (i := 10) (v := ?_) rfl (by kernel_rfl) (by kernel_rfl) (by kernel_rfl) (fun _ _ _ h => h) (Or.inl ⟨by rfl, ?_⟩) (by assumption) ?_
  rotate_left
  (focus (intro w0 hSw; (try dsimp only at hSw); go_simp <;> with_reducible rfl))
  simp only [List.getElem_toArray, List.getElem_cons_succ, List.getElem_cons_zero, Act.put, List.setIfInBounds_toArray, List.set_cons_zero, List.set_cons_succ]
  refine wpAnyH_take (i := 11) (v := ?_) rfl (by kernel_rfl) (by kernel_rfl) (by kernel_rfl) (fun _ _ _ h => h) (Or.inl ⟨by rfl, ?_⟩) (by assumption) ?_
  rotate_left
  (focus (intro w0 hSw; (try dsimp only at hSw); go_simp <;> with_reducible rfl))
  simp only [List.getElem_toArray, List.getElem_cons_succ, List.getElem_cons_zero, Act.put, List.setIfInBounds_toArray, List.set_cons_zero, List.set_cons_succ]
  refine wpAnyH_take (i := 12) (v := ?_) rfl (by kernel_rfl) (by kernel_rfl) (by kernel_rfl) (fun _ _ _ h => h) (Or.inl ⟨by rfl, ?_⟩) (by assumption) ?_
  rotate_left
  (focus (intro w0 hSw; (try dsimp only at hSw); go_simp <;> with_reducible rfl))
  simp only [List.getElem_toArray, List.getElem_cons_succ, List.getElem_cons_zero, Act.put, List.setIfInBounds_toArray, List.set_cons_zero, List.set_cons_succ]
  refine wpAnyH_take (i := 13) (v := ?_) rfl (by kernel_rfl) (by kernel_rfl) (by kernel_rfl) (fun _ _ _ h => h) (Or.inl ⟨by rfl, ?_⟩) (by assumption) ?_
  rotate_left
  (focus (intro w0 hSw; (try dsimp only at hSw); go_simp <;> with_reducible rfl))
  simp only [List.getElem_toArray, List.getElem_cons_succ, List.getElem_cons_zero, Act.put, List.setIfInBounds_toArray, List.set_cons_zero, List.set_cons_succ]
  refine wpAnyH_take (i := 14) (v := ?_) rfl (by kernel_rfl) (by kernel_rfl) (by kernel_rfl) (fun _ _ _ h => h) (Or.inl ⟨by rfl, ?_⟩) (by assumption) ?_
  rotate_left
  (focus (intro w0 hSw; (try dsimp only at hSw); go_simp <;> with_reducible rfl))
  simp only [List.getElem_toArray, List.getElem_cons_succ, List.getElem_cons_zero, Act.put, List.setIfInBounds_toArray, List.set_cons_zero, List.set_cons_succ]
  refine wpAnyH_take (i := 15) (v := ?_) rfl (by kernel_rfl) (by kernel_rfl) (by kernel_rfl) (fun _ _ _ h => h) (Or.inl ⟨by rfl, ?_⟩) (by assumption) ?_
  rotate_left
  (focus (intro w0 hSw; (try dsimp only at hSw); go_simp <;> with_reducible rfl))
  simp only [List.getElem_toArray, List.getElem_cons_succ, List.getElem_cons_zero, Act.put, List.setIfInBounds_toArray, List.set_cons_zero, List.set_cons_succ]
  refine wpAnyH_take (i := 16) (v := ?_) rfl (by kernel_rfl) (by kernel_rfl) (by kernel_rfl) (fun _ _ _ h => h) (Or.inl ⟨by rfl, ?_⟩) (by assumption) ?_
  rotate_left
  (focus (intro w0 hSw; (try dsimp only at hSw); go_simp <;> with_reducible rfl))
  simp only [List.getElem_toArray, List.getElem_cons_succ, List.getElem_cons_zero, Act.put, List.setIfInBounds_toArray, List.set_cons_zero, List.set_cons_succ]
  refine wpAnyH_take (i := 17) (v := ?_) rfl (by kernel_rfl) (by kernel_rfl) (by kernel_rfl) (fun _ _ _ h => h) (Or.inl ⟨by rfl, ?_⟩) (by assumption) ?_
  rotate_left
  (focus (intro w0 hSw; (try dsimp only at hSw); go_simp <;> with_reducible rfl))
  simp only [List.getElem_toArray, List.getElem_cons_succ, List.getElem_cons_zero, Act.put, List.setIfInBounds_toArray, List.set_cons_zero, List.set_cons_succ]
  refine wpAnyH_take (i := 18) (v := ?_) rfl (by kernel_rfl) (by kernel_rfl) (by kernel_rfl) (fun _ _ _ h => h) (Or.inl ⟨by rfl, ?_⟩) (by assumption) ?_
  rotate_left
  (focus (intro w0 hSw; (try dsimp only at hSw); go_simp <;> with_reducible rfl))
  simp only [List.getElem_toArray, List.getElem_cons_succ, List.getElem_cons_zero, Act.put, List.setIfInBounds_toArray, List.set_cons_zero, List.set_cons_succ]
  refine wpAnyH_take (i := 19) (v := ?_) rfl (by kernel_rfl) (by kernel_rfl) (by kernel_rfl) (fun _ _ _ h => h) (Or.inl ⟨by rfl, ?_⟩) (by assumption) ?_
  rotate_left
  (focus (intro w0 hSw; (try dsimp only at hSw); go_simp <;> with_reducible rfl))
  simp only [List.getElem_toArray, List.getElem_cons_succ, List.getElem_cons_zero, Act.put, List.setIfInBounds_toArray, List.set_cons_zero, List.set_cons_succ]
  refine wpAnyH_take (i := 20) (v := ?_) rfl (by kernel_rfl) (by kernel_rfl) (by kernel_rfl) (fun _ _ _ h => h) (Or.inl ⟨by rfl, ?_⟩) (by assumption) ?_
  rotate_left
  (focus (intro w0 hSw; (try dsimp only at hSw); go_simp <;> with_reducible rfl))
  simp only [List.getElem_toArray, List.getElem_cons_succ, List.getElem_cons_zero, Act.put, List.setIfInBounds_toArray, List.set_cons_zero, List.set_cons_succ]
  refine wpAnyH_take (i := 21) (v := ?_) rfl (by kernel_rfl) (by kernel_rfl) (by kernel_rfl) (fun _ _ _ h => h) (Or.inl ⟨by rfl, ?_⟩) (by assumption) ?_
  rotate_left
  (focus (intro w0 hSw; (try dsimp only at hSw); go_simp <;> with_reducible rfl))
  simp only [List.getElem_toArray, List.getElem_cons_succ, List.getElem_cons_zero, Act.put, List.setIfInBounds_toArray, List.set_cons_zero, List.set_cons_succ]
  refine wpAnyH_take (i := 22) (v := ?_) rfl (by kernel_rfl) (by kernel_rfl) (by kernel_rfl) (fun _ _ _ h => h) (Or.inl ⟨by rfl, ?_⟩) (by assumption) ?_
  rotate_left
  (focus (intro w0 hSw; (try dsimp only at hSw); go_simp <;> with_reducible rfl))
  simp only [List.getElem_toArray, List.getElem_cons_succ, List.getElem_cons_zero, Act.put, List.setIfInBounds_toArray, List.set_cons_zero, List.set_cons_succ]
  refine wpAnyH_ready (rs := [23]) (by kernel_rfl) (by simp) ?_
  refine AllReadyH.cons (o := _) rfl (fun K hK => ?_) ?_
  rotate_left
  exact AllReadyH.nil
  go_simp
  go_at_call 29
  refine (docOfQ_c (z := 2) (by decide) (by decide)).mono ?_
  rintro e w11 ⟨s5, x5, n5, c5, f5, y5, m5, d5, g5, rfl, hb11, h5⟩
  replace HB9 := hid (HB9.out.trans (hb11.mono HB9.out.size)); replace HS9 := hid (HS9.out.below hb11); replace HR3 := hid (HR3.out.below hb11); have HR5 := hid h5
  (try go_wp2_with fail)
  refine hK.out _ _ ?_ (fun hH1 => ?_)
  · ((try dsimp only); (refine ⟨?_, ?_, ?_⟩ <;> repeat (with_reducible first | assumption | refine kCb (by assumption) ?_)))
  clear hK K
  try simp only [Act.put, List.setIfInBounds_toArray, List.set_cons_zero, List.set_cons_succ]
  refine wpAnyH_ready (rs := [24]) (by kernel_rfl) (by simp) ?_
  refine AllReadyH.cons (o := _) rfl (fun K hK => ?_) ?_
  rotate_left
  exact AllReadyH.nil
  go_simp
  go_at_call 30
  refine (rSameEq_c HR3.out HR5.out (by decide) (by decide)).mono ?_
  rintro e w12 ⟨rfl, hb12⟩
  replace HB9 := hid (HB9.out.trans (hb12.mono HB9.out.size)); replace HS9 := hid (HS9.out.below hb12)
  (try go_wp2_with fail)
  refine hK.out _ _ ?_ (fun hH2 => ?_)
  · ((try dsimp only); (refine ⟨?_, ?_, ?_⟩ <;> repeat (with_reducible first | assumption | refine kCb (by assumption) ?_)))
  clear hK K
  try simp only [Act.put, List.setIfInBounds_toArray, List.set_cons_zero, List.set_cons_succ]
  refine wpAnyH_take (i := 25) (v := ?_) rfl (by kernel_rfl) (by kernel_rfl) (by kernel_rfl) (fun _ _ _ h => h) (Or.inl ⟨by rfl, ?_⟩) (by assumption) ?_
  rotate_left
  (focus (intro w0 hSw; (try dsimp only at hSw); go_simp <;> with_reducible rfl))
  simp only [List.getElem_toArray, List.getElem_cons_succ, List.getElem_cons_zero, Act.put, List.setIfInBounds_toArray, List.set_cons_zero, List.set_cons_succ]
  refine wpAnyH_take (i := 26) (v := ?_) rfl (by kernel_rfl) (by kernel_rfl) (by kernel_rfl) (fun _ _ _ h => h) (Or.inl ⟨by rfl, ?_⟩) (by assumption) ?_
  rotate_left
  (focus (intro w0 hSw; (try dsimp only at hSw); go_simp <;> with_reducible rfl))
  simp only [List.getElem_toArray, List.getElem_cons_succ, List.getElem_cons_zero, Act.put, List.setIfInBounds_toArray, List.set_cons_zero, List.set_cons_succ]
  refine wpAnyH_take (i := 27) (v := ?_) rfl (by kernel_rfl) (by kernel_rfl) (by kernel_rfl) (fun _ _ _ h => h) (Or.inl ⟨by rfl, ?_⟩) (by assumption) ?_
  rotate_left
  (focus (intro w0 hSw; (try dsimp only at hSw); go_simp <;> with_reducible rfl))
  simp only [List.getElem_toArray, List.getElem_cons_succ, List.getElem_cons_zero, Act.put, List.setIfInBounds_toArray, List.set_cons_zero, List.set_cons_succ]
  refine wpAnyH_take (i := 28) (v := ?_) rfl (by kernel_rfl) (by kernel_rfl) (by kernel_rfl) (fun _ _ _ h => h) (Or.inl ⟨by rfl, ?_⟩) (by assumption) ?_
  rotate_left
  (focus (intro w0 hSw; (try dsimp only at hSw); go_simp <;> with_reducible rfl))
  simp only [List.getElem_toArray, List.getElem_cons_succ, List.getElem_cons_zero, Act.put, List.setIfInBounds_toArray, List.set_cons_zero, List.set_cons_succ]
  refine wpAnyH_take (i := 29) (v := ?_) rfl (by kernel_rfl) (by kernel_rfl) (by kernel_rfl) (fun _ _ _ h => h) (Or.inl ⟨by rfl, ?_⟩) (by assumption) ?_
  rotate_left
  (focus (intro w0 hSw; (try dsimp only at hSw); go_simp <;> with_reducible rfl))
  simp only [List.getElem_toArray, List.getElem_cons_succ, List.getElem_cons_zero, Act.put, List.setIfInBounds_toArray, List.set_cons_zero, List.set_cons_succ]
  refine wpAnyH_take (i := 30) (v := ?_) rfl (by kernel_rfl) (by kernel_rfl) (by kernel_rfl) (fun _ _ _ h => h) (Or.inl ⟨by rfl, ?_⟩) (by assumption) ?_
  rotate_left
  (focus (intro w0 hSw; (try dsimp only at hSw); go_simp <;> with_reducible rfl))
  simp only [List.getElem_toArray, List.getElem_cons_succ, List.getElem_cons_zero, Act.put, List.setIfInBounds_toArray, List.set_cons_zero, List.set_cons_succ]
  refine wpAnyH_take (i := 31) (v := ?_) rfl (by kernel_rfl) (by kernel_rfl) (by kernel_rfl) (fun _ _ _ h => h) (Or.inl ⟨by rfl, ?_⟩) (by assumption) ?_
  rotate_left
  (focus (intro w0 hSw; (try dsimp only at hSw); go_simp <;> with_reducible rfl))
  simp only [List.getElem_toArray, List.getElem_cons_succ, List.getElem_cons_zero, Act.put, List.setIfInBounds_toArray, List.set_cons_zero, List.set_cons_succ]
  refine wpAnyH_take (i := 32) (v := ?_) rfl (by kernel_rfl) (by kernel_rfl) (by kernel_rfl) (fun _ _ _ h => h) (Or.inl ⟨by rfl, ?_⟩) (by assumption) ?_
  rotate_left
  (focus (intro w0 hSw; (try dsimp only at hSw); go_simp <;> with_reducible rfl))
  simp only [List.getElem_toArray, List.getElem_cons_succ, List.getElem_cons_zero, Act.put, List.setIfInBounds_toArray, List.set_cons_zero, List.set_cons_succ]
  refine wpAnyH_take (i := 33) (v := ?_) rfl (by kernel_rfl) (by kernel_rfl) (by kernel_rfl) (fun _ _ _ h => h) (Or.inl ⟨by rfl, ?_⟩) (by assumption) ?_
  rotate_left
  (focus (intro w0 hSw; (try dsimp only at hSw); go_simp <;> with_reducible rfl))
  simp only [List.getElem_toArray, List.getElem_cons_succ, List.getElem_cons_zero, Act.put, List.setIfInBounds_toArray, List.set_cons_zero, List.set_cons_succ]
  refine wpAnyH_take (i := 34) (v := ?_) rfl (by kernel_rfl) (by kernel_rfl) (by kernel_rfl) (fun _ _ _ h => h) (Or.inl ⟨by rfl, ?_⟩) (by assumption) ?_
  rotate_left
  (focus (intro w0 hSw; (try dsimp only at hSw); go_simp <;> with_reducible rfl))
  simp only [List.getElem_toArray, List.getElem_cons_succ, List.getElem_cons_zero, Act.put, List.setIfInBounds_toArray, List.set_cons_zero, List.set_cons_succ]
  refine wpAnyH_take (i := 35) (v := ?_) rfl (by kernel_rfl) (by kernel_rfl) (by kernel_rfl) (fun _ _ _ h => h) (Or.inl ⟨by rfl, ?_⟩) (by assumption) ?_
  rotate_left
  (focus (intro w0 hSw; (try dsimp only at hSw); go_simp <;> with_reducible rfl))
  simp only [List.getElem_toArray, List.getElem_cons_succ, List.getElem_cons_zero, Act.put, List.setIfInBounds_toArray, List.set_cons_zero, List.set_cons_succ]
  refine wpAnyH_take (i := 36) (v := ?_) rfl (by kernel_rfl) (by kernel_rfl) (by kernel_rfl) (fun _ _ _ h => h) (Or.inl ⟨by rfl, ?_⟩) (by assumption) ?_
  rotate_left
  (focus (intro w0 hSw; (try dsimp only at hSw); go_simp <;> with_reducible rfl))
  simp only [List.getElem_toArray, List.getElem_cons_succ, List.getElem_cons_zero, Act.put, List.setIfInBounds_toArray, List.set_cons_zero, List.set_cons_succ]
  refine wpAnyH_take (i := 37) (v := ?_) rfl (by kernel_rfl) (by kernel_rfl) (by kernel_rfl) (fun _ _ _ h => h) (Or.inl ⟨by rfl, ?_⟩) (by assumption) ?_
  rotate_left
  (focus (intro w0 hSw; (try dsimp only at hSw); go_simp <;> with_reducible rfl))
  simp only [List.getElem_toArray, List.getElem_cons_succ, List.getElem_cons_zero, Act.put, List.setIfInBounds_toArray, List.set_cons_zero, List.set_cons_succ]
  refine wpAnyH_take (i := 38) (v := ?_) rfl (by kernel_rfl) (by kernel_rfl) (by kernel_rfl) (fun _ _ _ h => h) (Or.inl ⟨by rfl, ?_⟩) (by assumption) ?_
  rotate_left
  (focus (intro w0 hSw; (try dsimp only at hSw); go_simp <;> with_reducible rfl))
  simp only [List.getElem_toArray, List.getElem_cons_succ, List.getElem_cons_zero, Act.put, List.setIfInBounds_toArray, List.set_cons_zero, List.set_cons_succ]
  refine wpAnyH_take (i := 39) (v := ?_) rfl (by kernel_rfl) (by kernel_rfl) (by kernel_rfl) (fun _ _ _ h => h) (Or.inl ⟨by rfl, ?_⟩) (by assumption) ?_
  rotate_left
  (focus (intro w0 hSw; (try dsimp only at hSw); go_simp <;> with_reducible rfl))
  simp only [List.getElem_toArray, List.getElem_cons_succ, List.getElem_cons_zero, Act.put, List.setIfInBounds_toArray, List.set_cons_zero, List.set_cons_succ]
  refine wpAnyH_ready (rs := [40]) (by kernel_rfl) (by simp) ?_
  refine AllReadyH.cons (o := _) rfl (fun K hK => ?_) ?_
  rotate_left
  exact AllReadyH.nil
  go_simp
  go_at_call 11
  refine (stight_c HS9.out).mono ?_
  rintro e w13 ⟨rfl, rfl⟩
  (try go_wp2_with fail)
  refine hK.out _ _ ?_ (fun hH3 => ?_)
  · exact hH2
  clear hK K
  try simp only [Act.put, List.setIfInBounds_toArray, List.set_cons_zero, List.set_cons_succ]
  refine wpAnyH_take (i := 41) (v := ?_) rfl (by kernel_rfl) (by kernel_rfl) (by kernel_rfl) (fun _ _ _ h => h) (Or.inl ⟨by rfl, ?_⟩) (by assumption) ?_
  rotate_left
  (focus (intro w0 hSw; (try dsimp only at hSw); go_simp <;> with_reducible rfl))
  simp only [List.getElem_toArray, List.getElem_cons_succ, List.getElem_cons_zero, Act.put, List.setIfInBounds_toArray, List.set_cons_zero, List.set_cons_succ]
  refine wpAnyH_take (i := 42) (v := ?_) rfl (by kernel_rfl) (by kernel_rfl) (by kernel_rfl) (fun _ _ _ h => h) (Or.inl ⟨by rfl, ?_⟩) (by assumption) ?_
  rotate_left
  (focus (intro w0 hSw; (try dsimp only at hSw); go_simp <;> with_reducible rfl))
  simp only [List.getElem_toArray, List.getElem_cons_succ, List.getElem_cons_zero, Act.put, List.setIfInBounds_toArray, List.set_cons_zero, List.set_cons_succ]
  refine wpAnyH_take (i := 43) (v := ?_) rfl (by kernel_rfl) (by kernel_rfl) (by kernel_rfl) (fun _ _ _ h => h) (Or.inl ⟨by rfl, ?_⟩) (by assumption) ?_
  rotate_left
  (focus (intro w0 hSw; (try dsimp only at hSw); go_simp <;> with_reducible rfl))
  simp only [List.getElem_toArray, List.getElem_cons_succ, List.getElem_cons_zero, Act.put, List.setIfInBounds_toArray, List.set_cons_zero]
  refine wpAnyH_done (by kernel_rfl) ?_ _
  go_wp2
  go_ret
  exact ⟨rfl, HB9.out⟩
set_option maxRecDepth 100000 in
set_option maxHeartbeats 4000000 in
theorem stackNew_c {w : World} {n k : Int} : Calls Try.prog 3 #[.int .i64 n, .int .i64 k] w fun e w' => e = .returned (.bool true) ∧ Below w.heap.size w w' := by
  by_cases hr : n < 0 ∨ 64 < n ∨ k < 0 ∨ 64 < k
  · have CE := hid (fun W => snewE_c (w := W) hr)
    by_cases h1 : n < 0
    · go_enter Try.func3, Try.ntmps3
      go_wp2_with fail
      refine (awake17_c _).mono ?_
      rintro e w1 ⟨rfl, hb1⟩
      go_wp2_with fail
      refine (CE.out _).mono ?_
      rintro e w2 ⟨rfl, rfl⟩
      go_wp2
      go_ret
      exact ⟨rfl, hb1⟩
    by_cases h2 : (64 : Int) < n
    · go_enter Try.func3, Try.ntmps3
      go_wp2_with fail
      refine (awake17_c _).mono ?_
      rintro e w1 ⟨rfl, hb1⟩
      go_wp2_with fail
      refine (CE.out _).mono ?_
      rintro e w2 ⟨rfl, rfl⟩
      go_wp2
      go_ret
      exact ⟨rfl, hb1⟩
    by_cases h3 : k < 0
    · go_enter Try.func3, Try.ntmps3
      go_wp2_with fail
      refine (awake17_c _).mono ?_
      rintro e w1 ⟨rfl, hb1⟩
      go_wp2_with fail
      refine (CE.out _).mono ?_
      rintro e w2 ⟨rfl, rfl⟩
      go_wp2
      go_ret
      exact ⟨rfl, hb1⟩
    have h4 : (64 : Int) < k := by omega
    go_enter Try.func3, Try.ntmps3
    go_wp2_with fail
    refine (awake17_c _).mono ?_
    rintro e w1 ⟨rfl, hb1⟩
    go_wp2_with fail
    refine (CE.out _).mono ?_
    rintro e w2 ⟨rfl, rfl⟩
    go_wp2
    go_ret
    exact ⟨rfl, hb1⟩
  · have i1 : ¬ n < 0 := by omega
    have i2 : ¬ (64 : Int) < n := by omega
    have i3 : ¬ k < 0 := by omega
    have i4 : ¬ (64 : Int) < k := by omega
    have e1 : (n == n) = true := by simp
    have e2 : (k == k) = true := by simp
    have CE := hid (fun W => snew_c (w := W) (n := n) (k := k) (by omega) (by omega) (by omega) (by omega))
    clear hr
    go_enter Try.func3, Try.ntmps3
    go_wp2_with fail
    refine (awake17_c _).mono ?_
    rintro e w1 ⟨rfl, hb1⟩
    have HB1 := hid hb1
    clear hb1
    go_wp2_with fail
    refine (CE.out _).mono ?_
    rintro e w2 ⟨B, rfl, hb2, hs⟩
    have HB2 := hid (HB1.out.trans (hb2.mono HB1.out.size)); have HS := hid hs.out.2
    clear hb2 hs
    go_wp2_with fail
    refine (ssize_c HS.out).mono ?_
    rintro e w3 ⟨rfl, hb3⟩
    have HB3 := hid (HB2.out.trans (hb3.mono HB2.out.size)); have HS3 := hid (HS.out.below hb3)
    clear hb3
    go_wp2_with fail
    refine (stight_c HS3.out).mono ?_
    rintro e w4 ⟨rfl, rfl⟩
    go_wp2
    go_ret
    exact ⟨rfl, HB3.out⟩
theorem stackNew_x (n k : Int) (w : World) : Calls Try.prog 3 #[.int .i64 n, .int .i64 k] w fun e w' => e = .returned (.bool true) ∧ Below w.heap.size w w' := stackNew_c
end Go.Proofs.Ytllpllebmknmpaa

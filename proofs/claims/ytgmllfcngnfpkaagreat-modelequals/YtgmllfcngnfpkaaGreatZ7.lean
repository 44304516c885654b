/-
  The number that a number in memory is; the walk of package model's above. Lists of places in memory; the walk of package model's Crossed (written by makers/f10.py). The walks of slices.Equal of limbs, and of package model's sameRat, sameExt, sameTerm. The walks of package model's sameExt, sameTerm, sameCol, sameRow, and of slices.EqualFunc with them (written by makers/f12.py). The walks of slices.EqualFunc of terms, columns and rows, and of package model's sameRow (written by makers/f13.py).
-/
import Derived.Test.YtgmllfcngnfpkaaGreatZ6
namespace Go.Proofs.YtgmllfcngnfpkaaGreat
open Go.RowKit

/-- The number itself, of one in form. -/
def nq (t : Nm) : Rat := mkRat (wv t.s t.f t.n) (wv false t.g t.m).toNat
theorem Rn.nq {L w q} {t : Nm} (h : Rn L w t.s t.x t.n t.c t.f t.y t.m t.d t.g q) : nq t = q := by
  unfold Go.Proofs.YtgmllfcngnfpkaaGreat.nq
  rw [h.num.val, h.den.val, Int.toNat_natCast, Rat.mkRat_self]
/-- The first bound is above the second. -/
def abvB (a b : Ex) : Bool := decide (b.i < a.i) || (decide (a.i = b.i) && decide (nq b.v < nq a.v))
theorem NmS.en {w : World} {e : Ex} (h : NmS w e.v) (hf : exF e = true) (hn : e.v.n ≤ 100) (hm : e.v.m ≤ 100) : En 100 w e.i e.v.s e.v.x e.v.n e.v.c e.v.f e.v.y e.v.m e.v.d e.v.g (nq e.v) := by
  obtain ⟨q, hq⟩ := h.1.en hf hn hm
  rw [hq.rn.nq]; exact hq
theorem eord_abv {r : Int} {a b : Ex} (h : EOrd r a.i (nq a.v) b.i (nq b.v)) : decide (r > 0) = abvB a b := by
  unfold abvB
  rcases h with ⟨rfl, h⟩ | ⟨rfl, h1, h2⟩ | ⟨rfl, h⟩
  · rcases h with h | ⟨h1, h2⟩
    · have e1 : ¬ b.i < a.i := by omega
      have e2 : ¬ a.i = b.i := by omega
      simp [e1, e2]
    · have e1 : ¬ b.i < a.i := by omega
      have e2 : ¬ nq b.v < nq a.v := Rat.not_lt.2 (Rat.le_of_lt h2)
      simp [e1, e2]
  · have e1 : ¬ b.i < a.i := by omega
    have e2 : ¬ nq b.v < nq a.v := by rw [h2]; exact Rat.lt_irrefl
    simp [e1, e2]
  · rcases h with h | ⟨h1, h2⟩
    · simp [h]
    · simp [h1, h2]

set_option maxRecDepth 100000 in
set_option maxHeartbeats 2000000 in
theorem above_c {w : World} {a b : Ex} (ha : NmS w a.v) (hb : NmS w b.v) (fa : exF a = true) (fb : exF b = true) (la : a.v.n ≤ 100 ∧ a.v.m ≤ 100) (lb : b.v.n ≤ 100 ∧ b.v.m ≤ 100) :
    Calls Tryz.prog 35 #[a.val, b.val] w fun r w' => r = .returned (.bool (abvB a b)) ∧ Below w.heap.size w w' := by
  have C := hid (fun w' (hw : Below w.heap.size w w') => eCmp_g (w := w') (i1 := a.i) (s1 := a.v.s) (i2 := b.i) (s2 := b.v.s) (qa := nq a.v) (qb := nq b.v) (p1 := true) (p2 := true) (ha.below hw).1 (hb.below hw).1 la.1 la.2 lb.1 lb.2 fa fb (fun _ => (ha.below hw).en fa la.1 la.2) (fun _ => (hb.below hw).en fb lb.1 lb.2))
  have HO := hid (fun (r er : Int) (h : OC (true && true) a.i (nq a.v) b.i (nq b.v) r er) => (show decide (r > 0) = abvB a b from by
    rcases h with ⟨h, _⟩ | ⟨_, _, h⟩
    · cases h
    · exact eord_abv h))
  obtain ⟨t, ht⟩ : ∃ t, abvB a b = t := ⟨_, rfl⟩
  rw [ht] at HO ⊢
  generalize nq a.v = qa at *
  generalize nq b.v = qb at *
  clear ha hb fa fb la lb ht
  obtain ⟨i, ⟨s, x, n, c, f, y, m, d, g⟩⟩ := a
  obtain ⟨j, ⟨s2, x2, n2, c2, f2, y2, m2, d2, g2⟩⟩ := b
  replace C : Hid (∀ w' (hw : Below w.heap.size w w'), Calls Tryz.prog 73 #[.agg #[.int .i64 i, .bool s, .slice x n c, .slice y m d], .agg #[.int .i64 j, .bool s2, .slice x2 n2 c2, .slice y2 m2 d2]] w' fun e w2 => ∃ r er, e = .returned (.tuple #[.int .i64 r, .int .i64 er]) ∧ Below w'.heap.size w' w2 ∧ Hid (OC (true && true) i qa j qb r er)) := C
  replace HO : Hid (∀ (r er : Int), OC (true && true) i qa j qb r er → decide (r > 0) = t) := HO
  show Calls Tryz.prog 35 #[.agg #[.int .i64 i, .bool s, .slice x n c, .slice y m d], .agg #[.int .i64 j, .bool s2, .slice x2 n2 c2, .slice y2 m2 d2]] w _
  go_enter Tryz.func35, Tryz.ntmps35
  go_wp2_with fail
  have HB0 := hid (below_alloc (below_alloc (Below.refl w.heap.size w) (.cells #[.int .i64 i, .bool s, .slice x n c, .slice y m d] 73)) (.cells #[.int .i64 j, .bool s2, .slice x2 n2 c2, .slice y2 m2 d2] 73))
  refine (C.out _ HB0.out).mono ?_
  rintro e w1 ⟨r, er, rfl, hb1, HOC⟩
  have HB1 := hid (HB0.out.trans (hb1.mono HB0.out.size))
  have HR := hid (HO.out r er HOC.out)
  clear hb1 HB0 HO HOC C
  go_wp2
  go_ret
  refine ⟨?_, HB1.out⟩
  rw [← HR.out]; rfl
end Go.Proofs.YtgmllfcngnfpkaaGreat
namespace Go.Proofs.YtgmllfcngnfpkaaGreat
open Go.RowKit

theorem Tryz.infoInt : (Tryz.prog.info? 3).map (fun i => (i.zero, i.size, i.bytes)) = some (some (.int .i64 0), 1, 8) := by kernel_rfl
theorem onei (s : Int) : ∀ u ∈ (#[Value.int .i64 s] : Array Value).toList, u.oneCell' = true := by
  intro u hu; simp at hu; subst hu; rfl
theorem noti (s : Int) : ∀ u ∈ (#[Value.int .i64 s] : Array Value).toList, ∀ q, u ≠ .int .u64 q := by
  intro u hu q; simp at hu; subst hu; simp
theorem nzi : NoU (Value.int .i64 0).cells := nou_list (l := [Value.int .i64 0]) (noti 0)
/-- A list of numbers in memory. -/
def Il (w : World) (ao : Option Addr) (l : List Int) : Prop := ∀ j v, l[j]? = some v → ∃ b o, ao = some ⟨b, o, none⟩ ∧ w.cell? ⟨b, o + j, none⟩ = some (.int .i64 v)
theorem Il.below {w w' ao l} (h : Il w ao l) (hb : Below w.heap.size w w') : Il w' ao l := fun j v e => by
  obtain ⟨b, o, e1, h1⟩ := h j v e
  exact ⟨b, o, e1, kCb hb h1⟩
def ils (l : List Int) : List Value := l.map (Value.int .i64)
theorem rowg_il {e : TypeId} {base : Nat} {w : World} {ao : Option Addr} {cap : Nat} {l : List Int} (h : RowG e 1 base w (.slice ao l.length cap) l.length (ils l)) : Il w ao l := fun j v hj => by
  have hlt : j < l.length := (List.getElem?_eq_some_iff.1 hj).1
  rcases h.2 with ⟨hv, h0⟩ | ⟨g, cap', cur, hv, _⟩
  · omega
  · cases hv
    refine ⟨g, 0, rfl, ?_⟩
    rw [Nat.zero_add]
    exact h.cells (by simp [ils, hj])
/-- The places below i where B holds. -/
def crl (B : Nat → Bool) : Nat → List Int
  | 0 => []
  | i + 1 => crl B i ++ (if B i then [(i : Int)] else [])
theorem crl_len (B : Nat → Bool) : ∀ i, (crl B i).length ≤ i
  | 0 => Nat.le_refl _
  | i + 1 => by
    have := crl_len B i
    unfold crl
    rw [List.length_append]
    split <;> simp <;> omega
theorem crl_yes {B : Nat → Bool} {i : Nat} (h : B i = true) : crl B (i + 1) = crl B i ++ [(i : Int)] := by simp [crl, h]
theorem crl_no {B : Nat → Bool} {i : Nat} (h : B i = false) : crl B (i + 1) = crl B i := by simp [crl, h]
/-- Which columns, which rows are crossed. -/
def ccB (C : Nat → Lc) (j : Nat) : Bool := abvB (C j).lo (C j).hi
def rcB (R : Nat → Lr) (j : Nat) : Bool := abvB (R j).lo (R j).hi
/-- The bounds are short. -/
structure MoB (M : Mo) : Prop where
  c : ∀ j, j < M.ck → ((M.C j).lo.v.n ≤ 100 ∧ (M.C j).lo.v.m ≤ 100) ∧ (M.C j).hi.v.n ≤ 100 ∧ (M.C j).hi.v.m ≤ 100
  r : ∀ j, j < M.rk → ((M.R j).lo.v.n ≤ 100 ∧ (M.R j).lo.v.m ≤ 100) ∧ (M.R j).hi.v.n ≤ 100 ∧ (M.R j).hi.v.m ≤ 100
theorem clsB_at {C : Nat → Lc} : ∀ {r i : Nat}, clsB C r i = true → ∀ j, i ≤ j → j < i + r → nfB (C j).cost = true ∧ abB (C j).lo (C j).hi = true
  | 0, i, _, j, h1, h2 => by omega
  | r + 1, i, h, j, h1, h2 => by
    simp only [clsB, Bool.and_eq_true] at h
    by_cases e : j = i
    · subst e; exact ⟨h.1, h.2.1⟩
    · exact clsB_at h.2.2 j (by omega) (by omega)
theorem rlsB_at {R : Nat → Lr} : ∀ {r i : Nat}, rlsB R r i = true → ∀ j, i ≤ j → j < i + r → abB (R j).lo (R j).hi = true ∧ tfB (R j).tk (R j).col (R j).T = true
  | 0, i, _, j, h1, h2 => by omega
  | r + 1, i, h, j, h1, h2 => by
    simp only [rlsB, Bool.and_eq_true] at h
    by_cases e : j = i
    · subst e; exact ⟨h.1, h.2.1⟩
    · exact rlsB_at h.2.2 j (by omega) (by omega)
theorem abB_ok {a b : Ex} (h : abB a b = true) : exF a = true ∧ exF b = true ∧ a.i ≠ 1 ∧ b.i ≠ -1 := by
  simp only [abB, Bool.and_eq_true, decide_eq_true_eq] at h
  exact ⟨h.1, h.2.1, h.2.2.1, h.2.2.2⟩
/-- Crossed's answer. -/
def CrAns (w w' : World) (e : Ending) (M : Mo) : Prop :=
  (chkE M ≠ 0 ∧ e = .returned (.tuple #[.slice none 0 0, .slice none 0 0, .int .i64 (chkE M)]) ∧ Below w.heap.size w w') ∨
  (chkE M = 0 ∧ ∃ xa xc ya yc, e = .returned (.tuple #[.slice xa (crl (ccB M.C) M.ck).length xc, .slice ya (crl (rcB M.R) M.rk).length yc, .int .i64 0]) ∧ Below w.heap.size w w' ∧ Il w' xa (crl (ccB M.C) M.ck) ∧ Il w' ya (crl (rcB M.R) M.rk))

set_option maxRecDepth 100000 in
set_option maxHeartbeats 4000000 in
theorem crossed_c {w : World} {M : Mo} (h : MoW w M) (hm : M.ck ≤ 64 → M.rk ≤ 64 → MoB M) : Calls Tryz.prog 11 #[M.val] w fun r w' => CrAns w w' r M := by
  have CC := hid (fun w' (hw : Below w.heap.size w w') => check_w (w := w') (h.below hw))
  obtain ⟨e, he⟩ : ∃ e, chkE M = e := ⟨_, rfl⟩
  rw [he] at CC
  by_cases h0 : e = 0
  case neg =>
    have HA : Hid (∀ w', Below w.heap.size w w' → CrAns w w' (.returned (.tuple #[.slice none 0 0, .slice none 0 0, .int .i64 e])) M) := fun w' hw => .inl ⟨by rw [he]; exact h0, by rw [he], hw⟩
    have hne : (e != 0) = true := by simpa using h0
    clear he h hm
    obtain ⟨⟨s, x, n, c, f, y, m, d, g⟩, ca, ck, cc, C, ra, rk, rc, R⟩ := M
    replace CC : Hid (∀ w', Below w.heap.size w w' → Calls Tryz.prog 14 #[.agg #[.bool s, .slice x n c, .slice y m d, .slice ca ck cc, .slice ra rk rc]] w' fun e' w2 => e' = .returned (.int .i64 e) ∧ Below w'.heap.size w' w2) := CC
    show Calls Tryz.prog 11 #[.agg #[.bool s, .slice x n c, .slice y m d, .slice ca ck cc, .slice ra rk rc]] w _
    go_enter Tryz.func11, Tryz.ntmps11
    go_wp2_with fail
    have HB := hid (below_alloc (Below.refl w.heap.size w) (.cells #[.bool s, .slice x n c, .slice y m d, .slice ca ck cc, .slice ra rk rc] 28))
    refine (CC.out _ HB.out).mono ?_
    rintro r w1 ⟨rfl, hb1⟩
    have HB1 := hid (HB.out.trans (hb1.mono HB.out.size))
    clear hb1 HB CC
    go_wp2
    go_ret3
    exact HA.out _ HB1.out
  subst h0
  obtain ⟨l1, l2, hF, _⟩ := chkE_ok he
  obtain ⟨ho, hC, hR, hck, hrk⟩ := h l1 l2
  obtain ⟨hmc, hmr⟩ := hm l1 l2
  simp only [moF, Bool.and_eq_true] at hF
  have HFC := hid (show ∀ j, j < M.ck → abB (M.C j).lo (M.C j).hi = true from fun j hj => (clsB_at hF.2.1 j (by omega) (by omega)).2)
  have HFR := hid (show ∀ j, j < M.rk → abB (M.R j).lo (M.R j).hi = true from fun j hj => (rlsB_at hF.2.2 j (by omega) (by omega)).1)
  have HA : Hid (∀ w' xa xc ya yc, Below w.heap.size w w' → Il w' xa (crl (ccB M.C) M.ck) → Il w' ya (crl (rcB M.R) M.rk) → CrAns w w' (.returned (.tuple #[.slice xa (crl (ccB M.C) M.ck).length xc, .slice ya (crl (rcB M.R) M.rk).length yc, .int .i64 0])) M) := fun w' xa xc ya yc hw h1 h2 => .inr ⟨he, xa, xc, ya, yc, rfl, hw, h1, h2⟩
  generalize hP : (fun e w' => CrAns w w' e M) = P
  have HA2 : Hid (∀ w' xa xc ya yc, Below w.heap.size w w' → Il w' xa (crl (ccB M.C) M.ck) → Il w' ya (crl (rcB M.R) M.rk) → P (.returned (.tuple #[.slice xa (crl (ccB M.C) M.ck).length xc, .slice ya (crl (rcB M.R) M.rk).length yc, .int .i64 0])) w') := by
    subst hP; exact HA
  clear he h hm ho hF HA hP
  obtain ⟨⟨s, x, n, c, f, y, m, d, g⟩, ca, ck, cc, C, ra, rk, rc, R⟩ := M
  replace l1 : ck ≤ 64 := l1
  replace l2 : rk ≤ 64 := l2
  have HC : Hid (Cls w ca ck C) := hC
  have HRL : Hid (Rls w ra rk R) := hR
  replace HFC : Hid (∀ j, j < ck → abB (C j).lo (C j).hi = true) := HFC
  replace HFR : Hid (∀ j, j < rk → abB (R j).lo (R j).hi = true) := HFR
  have HMC : Hid (∀ j, j < ck → ((C j).lo.v.n ≤ 100 ∧ (C j).lo.v.m ≤ 100) ∧ (C j).hi.v.n ≤ 100 ∧ (C j).hi.v.m ≤ 100) := hmc
  have HMR : Hid (∀ j, j < rk → ((R j).lo.v.n ≤ 100 ∧ (R j).lo.v.m ≤ 100) ∧ (R j).hi.v.n ≤ 100 ∧ (R j).hi.v.m ≤ 100) := hmr
  replace HA2 : Hid (∀ w' xa xc ya yc, Below w.heap.size w w' → Il w' xa (crl (ccB C) ck) → Il w' ya (crl (rcB R) rk) → P (.returned (.tuple #[.slice xa (crl (ccB C) ck).length xc, .slice ya (crl (rcB R) rk).length yc, .int .i64 0])) w') := HA2
  replace CC : Hid (∀ w', Below w.heap.size w w' → Calls Tryz.prog 14 #[.agg #[.bool s, .slice x n c, .slice y m d, .slice ca ck cc, .slice ra rk rc]] w' fun e w2 => e = .returned (.int .i64 0) ∧ Below w'.heap.size w' w2) := CC
  clear hC hR hck hrk hmc hmr
  show Calls Tryz.prog 11 #[.agg #[.bool s, .slice x n c, .slice y m d, .slice ca ck cc, .slice ra rk rc]] w _
  go_enter Tryz.func11, Tryz.ntmps11
  go_wp2_with fail
  have HB := hid (below_alloc (Below.refl w.heap.size w) (.cells #[.bool s, .slice x n c, .slice y m d, .slice ca ck cc, .slice ra rk rc] 28))
  refine (CC.out _ HB.out).mono ?_
  rintro r w1 ⟨rfl, hb1⟩
  have k3 := kCb hb1 (a := ⟨w.heap.size, 3, none⟩) (v := .slice ca ck cc) (by simp [go_sem])
  have HK4 := hid (kCb hb1 (a := ⟨w.heap.size, 4, none⟩) (v := .slice ra rk rc) (by simp [go_sem]))
  have HB1 := hid (HB.out.trans (hb1.mono HB.out.size))
  clear hb1 HB CC
  go_wp2_with fail
  go_loopw [6, 20] (fun ov t wr => ∃ (i : Nat), i ≤ ck ∧ t = .int .i64 i ∧ Hid (Below w1.heap.size w1 wr) ∧ Hid (RowG 3 1 w1.heap.size wr ov (crl (ccB C) i).length (ils (crl (ccB C) i)))) (fun _ t _ => ck - (intOf t).toNat)
  case atStart => exact ⟨0, by omega, rfl, Below.refl _ _, rowG_nil _ _ _ _⟩
  case round =>
    obtain ⟨i, hi, rfl, HB, HRow⟩ := hrel
    by_cases hlt : i < ck
    · obtain ⟨b, o, rfl, hc, hn⟩ := (HC.out.below (HB1.out.trans (HB.out.mono HB1.out.size))) i hlt
      obtain ⟨t1, ht1⟩ : ∃ t, ccB C i = t := ⟨_, rfl⟩
      obtain ⟨fa, fb, _, _⟩ := abB_ok (HFC.out i hlt)
      have CA := hid (fun w' (hw : Below wr.heap.size wr w') => above_c (w := w') (hn.lo.below hw) (hn.hi.below hw) fa fb (HMC.out i hlt).1 (HMC.out i hlt).2)
      rw [show abvB (C i).lo (C i).hi = t1 from ht1] at CA
      have hln := crl_len (ccB C) i
      obtain ⟨⟨z, ⟨s0, x0, n0, c0, f0, y0, m0, d0, g0⟩, ⟨i1, ⟨s1, x1, n1, c1, f1, y1, m1, d1, g1⟩⟩, ⟨i2, ⟨s2, x2, n2, c2, f2, y2, m2, d2, g2⟩⟩⟩, hCi⟩ : ∃ t, C i = t := ⟨_, rfl⟩
      rw [hCi] at hc CA
      replace CA : Hid (∀ w' (hw : Below wr.heap.size wr w'), Calls Tryz.prog 35 #[.agg #[.int .i64 i1, .bool s1, .slice x1 n1 c1, .slice y1 m1 d1], .agg #[.int .i64 i2, .bool s2, .slice x2 n2 c2, .slice y2 m2 d2]] w' fun r w2 => r = .returned (.bool t1) ∧ Below w'.heap.size w' w2) := CA
      have q0 : wr.cell? ⟨b, o + i * 12, none⟩ = some (.string z) := hc 0 _ rfl
      have q1 : wr.cell? ⟨b, o + i * 12 + 1, none⟩ = some (.bool s0) := hc 1 _ rfl
      have q2 : wr.cell? ⟨b, o + i * 12 + 2, none⟩ = some (.slice x0 n0 c0) := hc 2 _ rfl
      have q3 : wr.cell? ⟨b, o + i * 12 + 3, none⟩ = some (.slice y0 m0 d0) := hc 3 _ rfl
      have q4 : wr.cell? ⟨b, o + i * 12 + 4, none⟩ = some (.int .i64 i1) := hc 4 _ rfl
      have q5 : wr.cell? ⟨b, o + i * 12 + 5, none⟩ = some (.bool s1) := hc 5 _ rfl
      have q6 : wr.cell? ⟨b, o + i * 12 + 6, none⟩ = some (.slice x1 n1 c1) := hc 6 _ rfl
      have q7 : wr.cell? ⟨b, o + i * 12 + 7, none⟩ = some (.slice y1 m1 d1) := hc 7 _ rfl
      have q8 : wr.cell? ⟨b, o + i * 12 + 8, none⟩ = some (.int .i64 i2) := hc 8 _ rfl
      have q9 : wr.cell? ⟨b, o + i * 12 + 9, none⟩ = some (.bool s2) := hc 9 _ rfl
      have q10 : wr.cell? ⟨b, o + i * 12 + 10, none⟩ = some (.slice x2 n2 c2) := hc 10 _ rfl
      have q11 : wr.cell? ⟨b, o + i * 12 + 11, none⟩ = some (.slice y2 m2 d2) := hc 11 _ rfl
      have HT1 := hid ht1
      have i1' : ((i : Nat) : Int) < ((ck : Nat) : Int) := by omega
      clear hCi hc hn fa fb ht1
      go_wp2_with fail
      have HB2 := hid (below_alloc (Below.refl wr.heap.size wr) (.cells #[.string z, .bool s0, .slice x0 n0 c0, .slice y0 m0 d0, .int .i64 i1, .bool s1, .slice x1 n1 c1, .slice y1 m1 d1, .int .i64 i2, .bool s2, .slice x2 n2 c2, .slice y2 m2 d2] 77))
      refine (CA.out _ HB2.out).mono ?_
      rintro r w6 ⟨rfl, hb2⟩
      have HB3 := HB2.out.trans (hb2.mono HB2.out.size)
      have HRow5 := hid (HRow.out.below HB3); have HB5' := hid (HB.out.trans (HB3.mono HB.out.size))
      clear hb2 HB2 HB3 CA HB HRow q0 q1 q2 q3 q4 q5 q6 q7 q8 q9 q10 q11
      cases t1
      · go_wp2
        go_roundw
        case rel => exact ⟨i + 1, by omega, by go_num, HB5'.out, by show RowG _ _ _ _ _ _ _; rw [crl_no HT1.out]; exact HRow5.out⟩
        case measure => simp [intOf]; omega
      · have hsz := HB5'.out.size
        go_wp2_with (at_builtin; go_must (refine wpList_append_one w6 rfl (.tmp 30) (.tmp 32) 31 rfl w1.heap.size 3 8 1 (.int .i64 0) Tryz.underlying31 Tryz.infoInt rfl (by decide) nzi u6 (crl (ccB C) i).length (ils (crl (ccB C) i)) rfl HRow5.out #[.int .i64 (i : Int)] rfl rfl (onei _) (noti _) ?p1 (by decide) hsz ?_))
        case p1 => omega
        intro g8 cap8 w8 hr8 hk8 hb8 hg8
        have HB8 := hid (hb8 w1 HB5'.out (Nat.le_refl _))
        have HR8 : Hid (RowG 3 1 w1.heap.size w8 (.slice (some ⟨g8, 0, none⟩) ((crl (ccB C) i).length + 1) cap8) (crl (ccB C) (i + 1)).length (ils (crl (ccB C) (i + 1)))) := by
          show RowG _ _ _ _ _ _ _
          rw [crl_yes HT1.out]
          simpa [ils] using hr8
        clear hr8 hk8 hb8 hg8 HRow5 HB5' hsz
        go_wp2
        go_roundw
        case rel => exact ⟨i + 1, by omega, by go_num, HB8.out, HR8.out⟩
        case measure => simp [intOf]; omega
    · have e1 : i = ck := by omega
      have i2 : ¬ (((i : Nat) : Int) < ((ck : Nat) : Int)) := by omega
      rw [e1] at HRow
      obtain ⟨xa, xc, rfl⟩ := HRow.out.slice
      have k4 := kCb HB.out HK4.out
      have HB5 := hid (HB1.out.trans (HB.out.mono HB1.out.size))
      have HSX := hid (rowg_il HRow.out)
      clear e1 HB HC HK4 HB1 HRow k3
      generalize wr = wa at *
      go_wp2_with fail
      go_loopw [7, 38] (fun ov t wr => ∃ (i : Nat), i ≤ rk ∧ t = .int .i64 i ∧ Hid (Below wa.heap.size wa wr) ∧ Hid (RowG 3 1 wa.heap.size wr ov (crl (rcB R) i).length (ils (crl (rcB R) i)))) (fun _ t _ => rk - (intOf t).toNat)
      case atStart => exact ⟨0, by omega, rfl, Below.refl _ _, rowG_nil _ _ _ _⟩
      case round =>
        obtain ⟨i, hi, rfl, HB, HRow⟩ := hrel
        by_cases hlt : i < rk
        · obtain ⟨b, o, rfl, hc, hn⟩ := (HRL.out.below (HB5.out.trans (HB.out.mono HB5.out.size))) i hlt
          obtain ⟨t1, ht1⟩ : ∃ t, rcB R i = t := ⟨_, rfl⟩
          obtain ⟨fa, fb, _, _⟩ := abB_ok (HFR.out i hlt)
          have CA := hid (fun w' (hw : Below wr.heap.size wr w') => above_c (w := w') (hn.lo.below hw) (hn.hi.below hw) fa fb (HMR.out i hlt).1 (HMR.out i hlt).2)
          rw [show abvB (R i).lo (R i).hi = t1 from ht1] at CA
          have hln := crl_len (rcB R) i
          obtain ⟨⟨z, ⟨i1, ⟨s1, x1, n1, c1, f1, y1, m1, d1, g1⟩⟩, ⟨i2, ⟨s2, x2, n2, c2, f2, y2, m2, d2, g2⟩⟩, ta, tk, tc, tcol, tt⟩, hCi⟩ : ∃ t, R i = t := ⟨_, rfl⟩
          rw [hCi] at hc CA
          replace CA : Hid (∀ w' (hw : Below wr.heap.size wr w'), Calls Tryz.prog 35 #[.agg #[.int .i64 i1, .bool s1, .slice x1 n1 c1, .slice y1 m1 d1], .agg #[.int .i64 i2, .bool s2, .slice x2 n2 c2, .slice y2 m2 d2]] w' fun r w2 => r = .returned (.bool t1) ∧ Below w'.heap.size w' w2) := CA
          have q0 : wr.cell? ⟨b, o + i * 10, none⟩ = some (.string z) := hc 0 _ rfl
          have q1 : wr.cell? ⟨b, o + i * 10 + 1, none⟩ = some (.int .i64 i1) := hc 1 _ rfl
          have q2 : wr.cell? ⟨b, o + i * 10 + 2, none⟩ = some (.bool s1) := hc 2 _ rfl
          have q3 : wr.cell? ⟨b, o + i * 10 + 3, none⟩ = some (.slice x1 n1 c1) := hc 3 _ rfl
          have q4 : wr.cell? ⟨b, o + i * 10 + 4, none⟩ = some (.slice y1 m1 d1) := hc 4 _ rfl
          have q5 : wr.cell? ⟨b, o + i * 10 + 5, none⟩ = some (.int .i64 i2) := hc 5 _ rfl
          have q6 : wr.cell? ⟨b, o + i * 10 + 6, none⟩ = some (.bool s2) := hc 6 _ rfl
          have q7 : wr.cell? ⟨b, o + i * 10 + 7, none⟩ = some (.slice x2 n2 c2) := hc 7 _ rfl
          have q8 : wr.cell? ⟨b, o + i * 10 + 8, none⟩ = some (.slice y2 m2 d2) := hc 8 _ rfl
          have q9 : wr.cell? ⟨b, o + i * 10 + 9, none⟩ = some (.slice ta tk tc) := hc 9 _ rfl
          have HT1 := hid ht1
          have i1' : ((i : Nat) : Int) < ((rk : Nat) : Int) := by omega
          clear hCi hc hn fa fb ht1
          go_wp2_with fail
          have HB2 := hid (below_alloc (Below.refl wr.heap.size wr) (.cells #[.string z, .int .i64 i1, .bool s1, .slice x1 n1 c1, .slice y1 m1 d1, .int .i64 i2, .bool s2, .slice x2 n2 c2, .slice y2 m2 d2, .slice ta tk tc] 75))
          refine (CA.out _ HB2.out).mono ?_
          rintro r w6 ⟨rfl, hb2⟩
          have HB3 := HB2.out.trans (hb2.mono HB2.out.size)
          have HRow5 := hid (HRow.out.below HB3); have HB5' := hid (HB.out.trans (HB3.mono HB.out.size))
          clear hb2 HB2 HB3 CA HB HRow q0 q1 q2 q3 q4 q5 q6 q7 q8 q9
          cases t1
          · go_wp2
            go_roundw
            case rel => exact ⟨i + 1, by omega, by go_num, HB5'.out, by show RowG _ _ _ _ _ _ _; rw [crl_no HT1.out]; exact HRow5.out⟩
            case measure => simp [intOf]; omega
          · have hsz := HB5'.out.size
            go_wp2_with (at_builtin; go_must (refine wpList_append_one w6 rfl (.tmp 48) (.tmp 50) 31 rfl wa.heap.size 3 8 1 (.int .i64 0) Tryz.underlying31 Tryz.infoInt rfl (by decide) nzi u7 (crl (rcB R) i).length (ils (crl (rcB R) i)) rfl HRow5.out #[.int .i64 (i : Int)] rfl rfl (onei _) (noti _) ?p1 (by decide) hsz ?_))
            case p1 => omega
            intro g8 cap8 w8 hr8 hk8 hb8 hg8
            have HB8 := hid (hb8 wa HB5'.out (Nat.le_refl _))
            have HR8 : Hid (RowG 3 1 wa.heap.size w8 (.slice (some ⟨g8, 0, none⟩) ((crl (rcB R) i).length + 1) cap8) (crl (rcB R) (i + 1)).length (ils (crl (rcB R) (i + 1)))) := by
              show RowG _ _ _ _ _ _ _
              rw [crl_yes HT1.out]
              simpa [ils] using hr8
            clear hr8 hk8 hb8 hg8 HRow5 HB5' hsz
            go_wp2
            go_roundw
            case rel => exact ⟨i + 1, by omega, by go_num, HB8.out, HR8.out⟩
            case measure => simp [intOf]; omega
        · have e1 : i = rk := by omega
          have i2 : ¬ (((i : Nat) : Int) < ((rk : Nat) : Int)) := by omega
          rw [e1] at HRow
          obtain ⟨ya, yc, rfl⟩ := HRow.out.slice
          have HB6 := hid (HB5.out.trans (HB.out.mono HB5.out.size))
          have HSY := hid (rowg_il HRow.out)
          have HSX2 := hid (HSX.out.below HB.out)
          clear e1 HB HRow HSX
          go_wp2
          go_ret3
          exact HA2.out _ _ _ _ _ HB6.out HSX2.out HSY.out
end Go.Proofs.YtgmllfcngnfpkaaGreat
namespace Go.Proofs.YtgmllfcngnfpkaaGreat
open Go.RowKit

/-- The r limbs from place i on are the same. -/
def eqs (f g : Nat → Int) : Nat → Nat → Bool
  | 0, _ => true
  | r + 1, i => decide (f i = g i) && eqs f g r (i + 1)
def eqlB (n m : Nat) (f g : Nat → Int) : Bool := decide (n = m) && eqs f g n 0
def sqB (a b : Nm) : Bool := decide (a.s = b.s) && (eqlB a.n b.n a.f b.f && eqlB a.m b.m a.g b.g)
def sxB (a b : Ex) : Bool := decide (a.i = b.i) && sqB a.v b.v

set_option maxRecDepth 100000 in
set_option maxHeartbeats 2000000 in
theorem equalU_c {w : World} {x y : Option Addr} {n m c d : Nat} {f g : Nat → Int} (hx : Rd .u64 w x n f) (hy : Rd .u64 w y m g) (hn : n ≤ 1048576) (hm : m ≤ 1048576) :
    Calls Tryz.prog 90 #[.slice x n c, .slice y m d] w fun e w' => e = .returned (.bool (eqlB n m f g)) ∧ Below w.heap.size w w' := by
  have HX := hid hx; have HY := hid hy
  clear hx hy
  by_cases hnm : n = m
  case neg =>
    have HE := hid (show eqlB n m f g = false from by simp [eqlB, hnm])
    have e1 : ((n : Int) != (m : Int)) = true := by simp; omega
    clear hnm
    go_enter Tryz.func90, Tryz.ntmps90
    go_wp2
    go_ret
    refine ⟨?_, Below.refl _ _⟩
    rw [HE.out]; rfl
  subst hnm
  have HE := hid (show eqlB n n f g = eqs f g n 0 from by simp [eqlB])
  have e1 : ((n : Int) != (n : Int)) = false := by simp
  go_enter Tryz.func90, Tryz.ntmps90
  go_wp2_with fail
  go_loopw [13] (fun t wr => ∃ (i : Nat), i ≤ n ∧ t = .int .i64 i ∧ Hid (Below w.heap.size w wr) ∧ Hid (eqlB n n f g = eqs f g (n - i) i)) (fun t _ => n - (intOf t).toNat)
  case atStart => exact ⟨0, by omega, rfl, Below.refl _ _, HE.out⟩
  case round =>
    obtain ⟨i, hi, rfl, HB, HI⟩ := hrel
    by_cases hlt : i < n
    · obtain ⟨b, o, rfl, hc⟩ := (HX.out.below HB.out (Nat.le_refl _)) i hlt
      obtain ⟨b2, o2, rfl, hc2⟩ := (HY.out.below HB.out (Nat.le_refl _)) i hlt
      obtain ⟨r, hr⟩ : ∃ r, n - i = r + 1 := ⟨n - i - 1, by omega⟩
      have hT : eqlB n n f g = (decide (f i = g i) && eqs f g r (i + 1)) := by rw [HI.out, hr]; rfl
      have hr2 : n - (i + 1) = r := by omega
      obtain ⟨u, hu⟩ : ∃ u, f i = u := ⟨_, rfl⟩
      obtain ⟨v, hv⟩ : ∃ v, g i = v := ⟨_, rfl⟩
      rw [hu, hv] at hT
      rw [hu] at hc
      rw [hv] at hc2
      have HT := hid hT; have HR := hid hr2
      have i1 : ((i : Nat) : Int) < ((n : Nat) : Int) := by omega
      clear hT hr2 hr hu hv
      by_cases huv : u = v
      · subst huv
        have e2 : (u != u) = false := by simp
        go_upto_region 6 with fail
        have k1 : wr.drew.cell? ⟨b, o + i, none⟩ = some (.int .u64 u) := hc
        have k2 : wr.drew.cell? ⟨b2, o2 + i, none⟩ = some (.int .u64 u) := hc2
        go_quiet (fail)
        go_wp2
        go_roundw
        case rel =>
          refine ⟨i + 1, by omega, by go_num, (below_drewN HB.out _), ?_⟩
          show _ = _
          rw [HT.out, HR.out]; simp
        case measure => simp [intOf]; omega
      · have e2 : (u != v) = true := by simp [huv]
        go_upto_region 6 with fail
        have k1 : wr.drew.cell? ⟨b, o + i, none⟩ = some (.int .u64 u) := hc
        have k2 : wr.drew.cell? ⟨b2, o2 + i, none⟩ = some (.int .u64 v) := hc2
        go_quiet (fail)
        go_wp2
        go_ret
        refine ⟨?_, (below_drewN HB.out _)⟩
        rw [HT.out]; simp [huv]
    · have e1 : i = n := by omega
      have HE : Hid (eqlB n n f g = true) := by show _ = _; rw [HI.out, e1, Nat.sub_self]; rfl
      have i2 : ¬ (((i : Nat) : Int) < ((n : Nat) : Int)) := by omega
      clear e1 HI
      go_wp2
      go_ret
      refine ⟨?_, HB.out⟩
      rw [HE.out]; rfl

set_option maxRecDepth 100000 in
set_option maxHeartbeats 2000000 in
theorem sameRat_c {w : World} {a b : Nm} (ha : NmS w a) (hb : NmS w b) : Calls Tryz.prog 59 #[a.val, b.val] w fun r w' => r = .returned (.bool (sqB a b)) ∧ Below w.heap.size w w' := by
  have C1 := hid (fun w' (hw : Below w.heap.size w w') => equalU_c (w := w') (c := a.c) (d := b.c) (ha.1.rx.below hw (Nat.le_refl _)) (hb.1.rx.below hw (Nat.le_refl _)) (by have := ha.2.1; omega) (by have := hb.2.1; omega))
  have C2 := hid (fun w' (hw : Below w.heap.size w w') => equalU_c (w := w') (c := a.d) (d := b.d) (ha.1.ry.below hw (Nat.le_refl _)) (hb.1.ry.below hw (Nat.le_refl _)) (by have := ha.2.2; omega) (by have := hb.2.2; omega))
  obtain ⟨t1, ht1⟩ : ∃ t, eqlB a.n b.n a.f b.f = t := ⟨_, rfl⟩
  obtain ⟨t2, ht2⟩ : ∃ t, eqlB a.m b.m a.g b.g = t := ⟨_, rfl⟩
  obtain ⟨ans, hans⟩ : ∃ t, sqB a b = t := ⟨_, rfl⟩
  have hA : ans = (decide (a.s = b.s) && (t1 && t2)) := by rw [← hans, ← ht1, ← ht2]; rfl
  rw [ht1] at C1
  rw [ht2] at C2
  rw [hans]
  clear hans ht1 ht2 ha hb
  obtain ⟨s, x, n, c, f, y, m, d, g⟩ := a
  obtain ⟨s2, x2, n2, c2, f2, y2, m2, d2, g2⟩ := b
  have HA : Hid (ans = (decide (s = s2) && (t1 && t2))) := hA
  replace C1 : Hid (∀ w' (hw : Below w.heap.size w w'), Calls Tryz.prog 90 #[.slice x n c, .slice x2 n2 c2] w' fun e w2 => e = .returned (.bool t1) ∧ Below w'.heap.size w' w2) := C1
  replace C2 : Hid (∀ w' (hw : Below w.heap.size w w'), Calls Tryz.prog 90 #[.slice y m d, .slice y2 m2 d2] w' fun e w2 => e = .returned (.bool t2) ∧ Below w'.heap.size w' w2) := C2
  clear hA
  show Calls Tryz.prog 59 #[.agg #[.bool s, .slice x n c, .slice y m d], .agg #[.bool s2, .slice x2 n2 c2, .slice y2 m2 d2]] w _
  have HB0 := hid (below_alloc (below_alloc (Below.refl w.heap.size w) (.cells #[.bool s, .slice x n c, .slice y m d] 24)) (.cells #[.bool s2, .slice x2 n2 c2, .slice y2 m2 d2] 24))
  by_cases hs : s = s2
  case neg =>
    have HS := hid (show decide (s = s2) = false from by simp [hs])
    have e1 : (s == s2) = false := by simpa using hs
    go_enter Tryz.func59, Tryz.ntmps59
    go_wp2
    go_ret
    refine ⟨?_, HB0.out⟩
    rw [HA.out, HS.out]; rfl
  subst hs
  have HS := hid (show decide (s = s) = true from by simp)
  have e1 : (s == s) = true := by simp
  go_enter Tryz.func59, Tryz.ntmps59
  go_wp2_with fail
  refine (C1.out _ HB0.out).mono ?_
  rintro r w1 ⟨rfl, hb1⟩
  have k1 := kCb hb1 (a := ⟨w.heap.size, 2, none⟩) (v := .slice y m d) (by simp [go_sem])
  have k2 := kCb hb1 (a := ⟨w.heap.size + 1, 2, none⟩) (v := .slice y2 m2 d2) (by simp [go_sem])
  have HB1 := hid (HB0.out.trans (hb1.mono HB0.out.size))
  clear hb1 HB0 C1
  cases t1
  · go_wp2
    go_ret
    refine ⟨?_, HB1.out⟩
    rw [HA.out, HS.out]; rfl
  · go_wp2_with fail
    refine (C2.out _ HB1.out).mono ?_
    rintro r w2 ⟨rfl, hb2⟩
    have HB2 := hid (HB1.out.trans (hb2.mono HB1.out.size))
    clear hb2 HB1 C2
    go_wp2
    go_ret
    refine ⟨?_, HB2.out⟩
    rw [HA.out, HS.out]
    cases t2 <;> rfl
end Go.Proofs.YtgmllfcngnfpkaaGreat
namespace Go.Proofs.YtgmllfcngnfpkaaGreat
open Go.RowKit

set_option maxRecDepth 100000 in
set_option maxHeartbeats 2000000 in
theorem sameExt_c {w : World} {a b : Ex} (ha : NmS w a.v) (hb : NmS w b.v) : Calls Tryz.prog 91 #[a.val, b.val] w fun r w' => r = .returned (.bool (sxB a b)) ∧ Below w.heap.size w w' := by
  have C1 := hid (fun w' (hw : Below w.heap.size w w') => sameRat_c (w := w') (ha.below hw) (hb.below hw))
  obtain ⟨t1, ht1⟩ : ∃ t, sqB a.v b.v = t := ⟨_, rfl⟩
  obtain ⟨ans, hans⟩ : ∃ t, sxB a b = t := ⟨_, rfl⟩
  have hA : ans = (decide (a.i = b.i) && t1) := by rw [← hans, ← ht1]; rfl
  rw [ht1] at C1
  rw [hans]
  clear hans ht1 ha hb
  obtain ⟨i, ⟨s, x, n, c, f, y, m, d, g⟩⟩ := a
  obtain ⟨vi, ⟨vs, vx, vn, vc, vf', vy, vm, vd, vg⟩⟩ := b
  have HA : Hid (ans = (decide (i = vi) && t1)) := hA
  replace C1 : Hid (∀ w' (hw : Below w.heap.size w w'), Calls Tryz.prog 59 #[.agg #[.bool s, .slice x n c, .slice y m d], .agg #[.bool vs, .slice vx vn vc, .slice vy vm vd]] w' fun e w2 => e = .returned (.bool t1) ∧ Below w'.heap.size w' w2) := C1
  clear hA
  show Calls Tryz.prog 91 #[.agg #[.int .i64 i, .bool s, .slice x n c, .slice y m d], .agg #[.int .i64 vi, .bool vs, .slice vx vn vc, .slice vy vm vd]] w _
  have HB0 := hid (below_alloc (below_alloc (Below.refl w.heap.size w) (.cells #[.int .i64 i, .bool s, .slice x n c, .slice y m d] 73)) (.cells #[.int .i64 vi, .bool vs, .slice vx vn vc, .slice vy vm vd] 73))
  by_cases hs : i = vi
  case neg =>
    have HS := hid (show decide (i = vi) = false from by simp [hs])
    have e1 : (i == vi) = false := by simpa using hs
    go_enter Tryz.func91, Tryz.ntmps91
    go_wp2
    go_ret
    refine ⟨?_, HB0.out⟩
    rw [HA.out, HS.out]; rfl
  subst hs
  have HS := hid (show decide (i = i) = true from by simp)
  have e1 : (i == i) = true := by simp
  go_enter Tryz.func91, Tryz.ntmps91
  go_wp2_with fail
  refine (C1.out _ HB0.out).mono ?_
  rintro r w1 ⟨rfl, hb1⟩
  have HB1 := hid (HB0.out.trans (hb1.mono HB0.out.size))
  clear hb1 C1
  cases t1
  · go_wp2
    go_ret
    refine ⟨?_, HB1.out⟩
    rw [HA.out, HS.out]; rfl
  · go_wp2
    go_ret
    refine ⟨?_, HB1.out⟩
    rw [HA.out, HS.out]; rfl
set_option maxRecDepth 100000 in
set_option maxHeartbeats 2000000 in
theorem sameTerm_c {w : World} {a b : Ex} (ha : NmS w a.v) (hb : NmS w b.v) : Calls Tryz.prog 93 #[a.val, b.val] w fun r w' => r = .returned (.bool (sxB a b)) ∧ Below w.heap.size w w' := by
  have C1 := hid (fun w' (hw : Below w.heap.size w w') => sameRat_c (w := w') (ha.below hw) (hb.below hw))
  obtain ⟨t1, ht1⟩ : ∃ t, sqB a.v b.v = t := ⟨_, rfl⟩
  obtain ⟨ans, hans⟩ : ∃ t, sxB a b = t := ⟨_, rfl⟩
  have hA : ans = (decide (a.i = b.i) && t1) := by rw [← hans, ← ht1]; rfl
  rw [ht1] at C1
  rw [hans]
  clear hans ht1 ha hb
  obtain ⟨i, ⟨s, x, n, c, f, y, m, d, g⟩⟩ := a
  obtain ⟨vi, ⟨vs, vx, vn, vc, vf', vy, vm, vd, vg⟩⟩ := b
  have HA : Hid (ans = (decide (i = vi) && t1)) := hA
  replace C1 : Hid (∀ w' (hw : Below w.heap.size w w'), Calls Tryz.prog 59 #[.agg #[.bool s, .slice x n c, .slice y m d], .agg #[.bool vs, .slice vx vn vc, .slice vy vm vd]] w' fun e w2 => e = .returned (.bool t1) ∧ Below w'.heap.size w' w2) := C1
  clear hA
  show Calls Tryz.prog 93 #[.agg #[.int .i64 i, .bool s, .slice x n c, .slice y m d], .agg #[.int .i64 vi, .bool vs, .slice vx vn vc, .slice vy vm vd]] w _
  have HB0 := hid (below_alloc (below_alloc (Below.refl w.heap.size w) (.cells #[.int .i64 i, .bool s, .slice x n c, .slice y m d] 62)) (.cells #[.int .i64 vi, .bool vs, .slice vx vn vc, .slice vy vm vd] 62))
  by_cases hs : i = vi
  case neg =>
    have HS := hid (show decide (i = vi) = false from by simp [hs])
    have e1 : (i == vi) = false := by simpa using hs
    go_enter Tryz.func93, Tryz.ntmps93
    go_wp2
    go_ret
    refine ⟨?_, HB0.out⟩
    rw [HA.out, HS.out]; rfl
  subst hs
  have HS := hid (show decide (i = i) = true from by simp)
  have e1 : (i == i) = true := by simp
  go_enter Tryz.func93, Tryz.ntmps93
  go_wp2_with fail
  refine (C1.out _ HB0.out).mono ?_
  rintro r w1 ⟨rfl, hb1⟩
  have HB1 := hid (HB0.out.trans (hb1.mono HB0.out.size))
  clear hb1 C1
  cases t1
  · go_wp2
    go_ret
    refine ⟨?_, HB1.out⟩
    rw [HA.out, HS.out]; rfl
  · go_wp2
    go_ret
    refine ⟨?_, HB1.out⟩
    rw [HA.out, HS.out]; rfl
/-- Are two columns the same? -/
def scB (a b : Lc) : Bool := decide (a.nm = b.nm) && (sqB a.cost b.cost && (sxB a.lo b.lo && sxB a.hi b.hi))
def Lc.val (c : Lc) : Value := .agg c.vs.toArray
set_option maxRecDepth 100000 in
set_option maxHeartbeats 4000000 in
theorem sameCol_c {w : World} {a b : Lc} (ha : LcR w a) (hb : LcR w b) : Calls Tryz.prog 61 #[a.val, b.val] w fun r w' => r = .returned (.bool (scB a b)) ∧ Below w.heap.size w w' := by
  have C1 := hid (fun w' (hw : Below w.heap.size w w') => sameRat_c (w := w') (ha.cost.below hw) (hb.cost.below hw))
  have C2 := hid (fun w' (hw : Below w.heap.size w w') => sameExt_c (w := w') (ha.lo.below hw) (hb.lo.below hw))
  have C3 := hid (fun w' (hw : Below w.heap.size w w') => sameExt_c (w := w') (ha.hi.below hw) (hb.hi.below hw))
  obtain ⟨t1, ht1⟩ : ∃ t, sqB a.cost b.cost = t := ⟨_, rfl⟩
  obtain ⟨t2, ht2⟩ : ∃ t, sxB a.lo b.lo = t := ⟨_, rfl⟩
  obtain ⟨t3, ht3⟩ : ∃ t, sxB a.hi b.hi = t := ⟨_, rfl⟩
  obtain ⟨ans, hans⟩ : ∃ t, scB a b = t := ⟨_, rfl⟩
  have hA : ans = (decide (a.nm = b.nm) && (t1 && (t2 && t3))) := by rw [← hans, ← ht1, ← ht2, ← ht3]; rfl
  rw [ht1] at C1
  rw [ht2] at C2
  rw [ht3] at C3
  rw [hans]
  clear hans ht1 ht2 ht3 ha hb
  obtain ⟨z, ⟨s0, x0, n0, c0, f0, y0, m0, d0, g0⟩, ⟨i1, ⟨s1, x1, n1, c1, f1, y1, m1, d1, g1⟩⟩, ⟨i2, ⟨s2, x2, n2, c2, f2, y2, m2, d2, g2⟩⟩⟩ := a
  obtain ⟨vz, ⟨vs0, vx0, vn0, vc0, vf0, vy0, vm0, vd0, vg0⟩, ⟨vi1, ⟨vs1, vx1, vn1, vc1, vf1, vy1, vm1, vd1, vg1⟩⟩, ⟨vi2, ⟨vs2, vx2, vn2, vc2, vf2, vy2, vm2, vd2, vg2⟩⟩⟩ := b
  have HA : Hid (ans = (decide (z = vz) && (t1 && (t2 && t3)))) := hA
  replace C1 : Hid (∀ w' (hw : Below w.heap.size w w'), Calls Tryz.prog 59 #[.agg #[.bool s0, .slice x0 n0 c0, .slice y0 m0 d0], .agg #[.bool vs0, .slice vx0 vn0 vc0, .slice vy0 vm0 vd0]] w' fun e w2 => e = .returned (.bool t1) ∧ Below w'.heap.size w' w2) := C1
  replace C2 : Hid (∀ w' (hw : Below w.heap.size w w'), Calls Tryz.prog 91 #[.agg #[.int .i64 i1, .bool s1, .slice x1 n1 c1, .slice y1 m1 d1], .agg #[.int .i64 vi1, .bool vs1, .slice vx1 vn1 vc1, .slice vy1 vm1 vd1]] w' fun e w2 => e = .returned (.bool t2) ∧ Below w'.heap.size w' w2) := C2
  replace C3 : Hid (∀ w' (hw : Below w.heap.size w w'), Calls Tryz.prog 91 #[.agg #[.int .i64 i2, .bool s2, .slice x2 n2 c2, .slice y2 m2 d2], .agg #[.int .i64 vi2, .bool vs2, .slice vx2 vn2 vc2, .slice vy2 vm2 vd2]] w' fun e w2 => e = .returned (.bool t3) ∧ Below w'.heap.size w' w2) := C3
  clear hA
  show Calls Tryz.prog 61 #[.agg #[.string z, .bool s0, .slice x0 n0 c0, .slice y0 m0 d0, .int .i64 i1, .bool s1, .slice x1 n1 c1, .slice y1 m1 d1, .int .i64 i2, .bool s2, .slice x2 n2 c2, .slice y2 m2 d2], .agg #[.string vz, .bool vs0, .slice vx0 vn0 vc0, .slice vy0 vm0 vd0, .int .i64 vi1, .bool vs1, .slice vx1 vn1 vc1, .slice vy1 vm1 vd1, .int .i64 vi2, .bool vs2, .slice vx2 vn2 vc2, .slice vy2 vm2 vd2]] w _
  have HB0 := hid (below_alloc (below_alloc (Below.refl w.heap.size w) (.cells #[.string z, .bool s0, .slice x0 n0 c0, .slice y0 m0 d0, .int .i64 i1, .bool s1, .slice x1 n1 c1, .slice y1 m1 d1, .int .i64 i2, .bool s2, .slice x2 n2 c2, .slice y2 m2 d2] 77)) (.cells #[.string vz, .bool vs0, .slice vx0 vn0 vc0, .slice vy0 vm0 vd0, .int .i64 vi1, .bool vs1, .slice vx1 vn1 vc1, .slice vy1 vm1 vd1, .int .i64 vi2, .bool vs2, .slice vx2 vn2 vc2, .slice vy2 vm2 vd2] 77))
  by_cases hs : z = vz
  case neg =>
    have HS := hid (show decide (z = vz) = false from by simp [hs])
    have e1 := str_ne hs
    go_enter Tryz.func61, Tryz.ntmps61
    go_wp2
    go_ret
    refine ⟨?_, HB0.out⟩
    rw [HA.out, HS.out]; rfl
  subst hs
  have HS := hid (show decide (z = z) = true from by simp)
  have e1 : (z.toList == z.toList) = true := by simp
  go_enter Tryz.func61, Tryz.ntmps61
  go_wp2_with fail
  refine (C1.out _ HB0.out).mono ?_
  rintro r w1 ⟨rfl, hb1⟩
  have p4 := kCb hb1 (a := ⟨w.heap.size, 4, none⟩) (v := .int .i64 i1) (by simp [go_sem])
  have r4 := kCb hb1 (a := ⟨w.heap.size + 1, 4, none⟩) (v := .int .i64 vi1) (by simp [go_sem])
  have p5 := kCb hb1 (a := ⟨w.heap.size, 5, none⟩) (v := .bool s1) (by simp [go_sem])
  have r5 := kCb hb1 (a := ⟨w.heap.size + 1, 5, none⟩) (v := .bool vs1) (by simp [go_sem])
  have p6 := kCb hb1 (a := ⟨w.heap.size, 6, none⟩) (v := .slice x1 n1 c1) (by simp [go_sem])
  have r6 := kCb hb1 (a := ⟨w.heap.size + 1, 6, none⟩) (v := .slice vx1 vn1 vc1) (by simp [go_sem])
  have p7 := kCb hb1 (a := ⟨w.heap.size, 7, none⟩) (v := .slice y1 m1 d1) (by simp [go_sem])
  have r7 := kCb hb1 (a := ⟨w.heap.size + 1, 7, none⟩) (v := .slice vy1 vm1 vd1) (by simp [go_sem])
  have p8 := kCb hb1 (a := ⟨w.heap.size, 8, none⟩) (v := .int .i64 i2) (by simp [go_sem])
  have r8 := kCb hb1 (a := ⟨w.heap.size + 1, 8, none⟩) (v := .int .i64 vi2) (by simp [go_sem])
  have p9 := kCb hb1 (a := ⟨w.heap.size, 9, none⟩) (v := .bool s2) (by simp [go_sem])
  have r9 := kCb hb1 (a := ⟨w.heap.size + 1, 9, none⟩) (v := .bool vs2) (by simp [go_sem])
  have p10 := kCb hb1 (a := ⟨w.heap.size, 10, none⟩) (v := .slice x2 n2 c2) (by simp [go_sem])
  have r10 := kCb hb1 (a := ⟨w.heap.size + 1, 10, none⟩) (v := .slice vx2 vn2 vc2) (by simp [go_sem])
  have p11 := kCb hb1 (a := ⟨w.heap.size, 11, none⟩) (v := .slice y2 m2 d2) (by simp [go_sem])
  have r11 := kCb hb1 (a := ⟨w.heap.size + 1, 11, none⟩) (v := .slice vy2 vm2 vd2) (by simp [go_sem])
  have HB1 := hid (HB0.out.trans (hb1.mono HB0.out.size))
  clear hb1 C1
  cases t1
  · go_wp2
    go_ret
    refine ⟨?_, HB1.out⟩
    rw [HA.out, HS.out]; rfl
  go_wp2_with fail
  refine (C2.out _ HB1.out).mono ?_
  rintro r w2 ⟨rfl, hb2⟩
  replace p8 := kCb hb2 p8; replace r8 := kCb hb2 r8
  replace p9 := kCb hb2 p9; replace r9 := kCb hb2 r9
  replace p10 := kCb hb2 p10; replace r10 := kCb hb2 r10
  replace p11 := kCb hb2 p11; replace r11 := kCb hb2 r11
  have HB2 := hid (HB1.out.trans (hb2.mono HB1.out.size))
  clear hb2 C2
  cases t2
  · go_wp2
    go_ret
    refine ⟨?_, HB2.out⟩
    rw [HA.out, HS.out]; rfl
  go_wp2_with fail
  refine (C3.out _ HB2.out).mono ?_
  rintro r w3 ⟨rfl, hb3⟩
  have HB3 := hid (HB2.out.trans (hb3.mono HB2.out.size))
  clear hb3 C3
  cases t3
  · go_wp2
    go_ret
    refine ⟨?_, HB3.out⟩
    rw [HA.out, HS.out]; rfl
  · go_wp2
    go_ret
    refine ⟨?_, HB3.out⟩
    rw [HA.out, HS.out]; rfl
end Go.Proofs.YtgmllfcngnfpkaaGreat
namespace Go.Proofs.YtgmllfcngnfpkaaGreat
open Go.RowKit

/-- The r elements from place i on are the same. -/
def eqf {α : Type} (e : α → α → Bool) (X Y : Nat → α) : Nat → Nat → Bool
  | 0, _ => true
  | r + 1, i => e (X i) (Y i) && eqf e X Y r (i + 1)
def eqfB {α : Type} (e : α → α → Bool) (n m : Nat) (X Y : Nat → α) : Bool := decide (n = m) && eqf e X Y n 0
/-- A list of terms as a list of numbers with a column each. -/
def tex (col : Nat → Int) (T : Nat → Nm) (j : Nat) : Ex := ⟨col j, T j⟩
def Ex.vs (e : Ex) : List Value := [.int .i64 e.i, .bool e.v.s, .slice e.v.x e.v.n e.v.c, .slice e.v.y e.v.m e.v.d]
theorem Tl.tex {w ao k col T} (h : Tl w ao k col T) : ∀ j, j < k → ∃ b o, ao = some ⟨b, o, none⟩ ∧ Cs w b (o + j * 4) (tex col T j).vs ∧ NmS w (tex col T j).v := fun j hj => by
  obtain ⟨b, o, e, h1, h2⟩ := h j hj
  refine ⟨b, o, e, fun i v hv => ?_, h2⟩
  match i, hv with
  | 0, hv => cases hv; exact h1.x0
  | 1, hv => cases hv; exact h1.x1
  | 2, hv => cases hv; exact h1.x2
  | 3, hv => cases hv; exact h1.x3
set_option maxRecDepth 100000 in
set_option maxHeartbeats 4000000 in
theorem equalTs_c {w : World} {ao bo : Option Addr} {k l cap cap' : Nat} {X Y : Nat → Ex} (hx : ∀ j, j < k → ∃ b o, ao = some ⟨b, o, none⟩ ∧ Cs w b (o + j * 4) (X j).vs ∧ NmS w (X j).v) (hy : ∀ j, j < l → ∃ b o, bo = some ⟨b, o, none⟩ ∧ Cs w b (o + j * 4) (Y j).vs ∧ NmS w (Y j).v) (hk : k ≤ 1048576) (hl : l ≤ 1048576) :
    Calls Tryz.prog 92 #[.slice ao k cap, .slice bo l cap', .func (.func 93) #[] #[]] w fun e w' => e = .returned (.bool (eqfB sxB k l X Y)) ∧ Below w.heap.size w w' := by
  have HX := hid hx; have HY := hid hy
  clear hx hy
  by_cases hkl : k = l
  case neg =>
    have HE := hid (show eqfB sxB k l X Y = false from by simp [eqfB, hkl])
    have e1 : ((k : Int) != (l : Int)) = true := by simp; omega
    clear hkl
    go_enter Tryz.func92, Tryz.ntmps92
    go_wp2
    go_ret
    refine ⟨?_, Below.refl _ _⟩
    rw [HE.out]; rfl
  subst hkl
  have HE := hid (show eqfB sxB k k X Y = eqf sxB X Y k 0 from by simp [eqfB])
  have e1 : ((k : Int) != (k : Int)) = false := by simp
  go_enter Tryz.func92, Tryz.ntmps92
  go_wp2_with fail
  go_loopw [17] (fun t wr => ∃ (i : Nat), i ≤ k ∧ t = .int .i64 i ∧ Hid (Below w.heap.size w wr) ∧ Hid (eqfB sxB k k X Y = eqf sxB X Y (k - i) i)) (fun t _ => k - (intOf t).toNat)
  case atStart => exact ⟨0, by omega, rfl, Below.refl _ _, HE.out⟩
  case round =>
    obtain ⟨i, hi, rfl, HB, HI⟩ := hrel
    by_cases hlt : i < k
    · obtain ⟨b, o, rfl, hc, hn⟩ := HX.out i hlt
      obtain ⟨b2, o2, rfl, hc2, hn2⟩ := HY.out i hlt
      replace hc := hc.below HB.out; replace hc2 := hc2.below HB.out; replace hn := hn.below HB.out; replace hn2 := hn2.below HB.out
      obtain ⟨r, hr⟩ : ∃ r, k - i = r + 1 := ⟨k - i - 1, by omega⟩
      obtain ⟨t1, ht1⟩ : ∃ t, sxB (X i) (Y i) = t := ⟨_, rfl⟩
      have hT : eqfB sxB k k X Y = (t1 && eqf sxB X Y r (i + 1)) := by rw [HI.out, hr, ← ht1]; rfl
      have hr2 : k - (i + 1) = r := by omega
      have CE := hid (fun w' (hw : Below wr.heap.size wr w') => sameTerm_c (w := w') (hn.below hw) (hn2.below hw))
      rw [ht1] at CE
      obtain ⟨⟨j0, ⟨s0, x0, n0, c0, f0, y0, m0, d0, g0⟩⟩, hCi⟩ : ∃ t, X i = t := ⟨_, rfl⟩
      obtain ⟨⟨vj0, ⟨vs0, vx0, vn0, vc0, vf0, vy0, vm0, vd0, vg0⟩⟩, hCi2⟩ : ∃ t, Y i = t := ⟨_, rfl⟩
      rw [hCi] at hc CE
      rw [hCi2] at hc2 CE
      replace CE : Hid (∀ w' (hw : Below wr.heap.size wr w'), Calls Tryz.prog 93 #[.agg #[.int .i64 j0, .bool s0, .slice x0 n0 c0, .slice y0 m0 d0], .agg #[.int .i64 vj0, .bool vs0, .slice vx0 vn0 vc0, .slice vy0 vm0 vd0]] w' fun e w2 => e = .returned (.bool t1) ∧ Below w'.heap.size w' w2) := CE
      have hb1 := below_alloc (Below.refl wr.heap.size wr) (.cells #[.int .i64 j0, .bool s0, .slice x0 n0 c0, .slice y0 m0 d0] 62)
      have q0 : wr.cell? ⟨b, o + i * 4, none⟩ = some (.int .i64 j0) := hc 0 _ rfl
      have q1 : wr.cell? ⟨b, o + i * 4 + 1, none⟩ = some (.bool s0) := hc 1 _ rfl
      have q2 : wr.cell? ⟨b, o + i * 4 + 2, none⟩ = some (.slice x0 n0 c0) := hc 2 _ rfl
      have q3 : wr.cell? ⟨b, o + i * 4 + 3, none⟩ = some (.slice y0 m0 d0) := hc 3 _ rfl
      have g0' : (wr.alloc (.cells #[.int .i64 j0, .bool s0, .slice x0 n0 c0, .slice y0 m0 d0] 62)).cell? ⟨b2, o2 + i * 4, none⟩ = some (.int .i64 vj0) := kCb hb1 (hc2 0 _ rfl)
      have g1' : (wr.alloc (.cells #[.int .i64 j0, .bool s0, .slice x0 n0 c0, .slice y0 m0 d0] 62)).cell? ⟨b2, o2 + i * 4 + 1, none⟩ = some (.bool vs0) := kCb hb1 (hc2 1 _ rfl)
      have g2' : (wr.alloc (.cells #[.int .i64 j0, .bool s0, .slice x0 n0 c0, .slice y0 m0 d0] 62)).cell? ⟨b2, o2 + i * 4 + 2, none⟩ = some (.slice vx0 vn0 vc0) := kCb hb1 (hc2 2 _ rfl)
      have g3' : (wr.alloc (.cells #[.int .i64 j0, .bool s0, .slice x0 n0 c0, .slice y0 m0 d0] 62)).cell? ⟨b2, o2 + i * 4 + 3, none⟩ = some (.slice vy0 vm0 vd0) := kCb hb1 (hc2 3 _ rfl)
      have p0 : ((wr.alloc (.cells #[.int .i64 j0, .bool s0, .slice x0 n0 c0, .slice y0 m0 d0] 62)).alloc (.cells #[.int .i64 vj0, .bool vs0, .slice vx0 vn0 vc0, .slice vy0 vm0 vd0] 62)).cell? ⟨wr.heap.size, 0, none⟩ = some (.int .i64 j0) := by simp [go_sem]
      have p1 : ((wr.alloc (.cells #[.int .i64 j0, .bool s0, .slice x0 n0 c0, .slice y0 m0 d0] 62)).alloc (.cells #[.int .i64 vj0, .bool vs0, .slice vx0 vn0 vc0, .slice vy0 vm0 vd0] 62)).cell? ⟨wr.heap.size, 1, none⟩ = some (.bool s0) := by simp [go_sem]
      have p2 : ((wr.alloc (.cells #[.int .i64 j0, .bool s0, .slice x0 n0 c0, .slice y0 m0 d0] 62)).alloc (.cells #[.int .i64 vj0, .bool vs0, .slice vx0 vn0 vc0, .slice vy0 vm0 vd0] 62)).cell? ⟨wr.heap.size, 2, none⟩ = some (.slice x0 n0 c0) := by simp [go_sem]
      have p3 : ((wr.alloc (.cells #[.int .i64 j0, .bool s0, .slice x0 n0 c0, .slice y0 m0 d0] 62)).alloc (.cells #[.int .i64 vj0, .bool vs0, .slice vx0 vn0 vc0, .slice vy0 vm0 vd0] 62)).cell? ⟨wr.heap.size, 3, none⟩ = some (.slice y0 m0 d0) := by simp [go_sem]
      have r0 : ((wr.alloc (.cells #[.int .i64 j0, .bool s0, .slice x0 n0 c0, .slice y0 m0 d0] 62)).alloc (.cells #[.int .i64 vj0, .bool vs0, .slice vx0 vn0 vc0, .slice vy0 vm0 vd0] 62)).cell? ⟨wr.heap.size + 1, 0, none⟩ = some (.int .i64 vj0) := by simp [go_sem]
      have r1 : ((wr.alloc (.cells #[.int .i64 j0, .bool s0, .slice x0 n0 c0, .slice y0 m0 d0] 62)).alloc (.cells #[.int .i64 vj0, .bool vs0, .slice vx0 vn0 vc0, .slice vy0 vm0 vd0] 62)).cell? ⟨wr.heap.size + 1, 1, none⟩ = some (.bool vs0) := by simp [go_sem]
      have r2 : ((wr.alloc (.cells #[.int .i64 j0, .bool s0, .slice x0 n0 c0, .slice y0 m0 d0] 62)).alloc (.cells #[.int .i64 vj0, .bool vs0, .slice vx0 vn0 vc0, .slice vy0 vm0 vd0] 62)).cell? ⟨wr.heap.size + 1, 2, none⟩ = some (.slice vx0 vn0 vc0) := by simp [go_sem]
      have r3 : ((wr.alloc (.cells #[.int .i64 j0, .bool s0, .slice x0 n0 c0, .slice y0 m0 d0] 62)).alloc (.cells #[.int .i64 vj0, .bool vs0, .slice vx0 vn0 vc0, .slice vy0 vm0 vd0] 62)).cell? ⟨wr.heap.size + 1, 3, none⟩ = some (.slice vy0 vm0 vd0) := by simp [go_sem]
      have HB6 := hid (below_alloc hb1 (.cells #[.int .i64 vj0, .bool vs0, .slice vx0 vn0 vc0, .slice vy0 vm0 vd0] 62))
      have HT := hid hT; have HR := hid hr2
      have i1' : ((i : Nat) : Int) < ((k : Nat) : Int) := by omega
      clear hT hr2 hr hCi hCi2 ht1 hc hc2 hn hn2 hb1
      go_upto_region 7 with fail
      clear q0 g0' q1 g1' q2 g2' q3 g3'
      generalize ((wr.alloc (.cells #[.int .i64 j0, .bool s0, .slice x0 n0 c0, .slice y0 m0 d0] 62)).alloc (.cells #[.int .i64 vj0, .bool vs0, .slice vx0 vn0 vc0, .slice vy0 vm0 vd0] 62)) = w6 at *
      go_wp2_with fail
      refine (CE.out _ HB6.out).mono ?_
      rintro e w7 ⟨rfl, hb7⟩
      have HB7 := hid (HB.out.trans ((HB6.out.trans (hb7.mono HB6.out.size)).mono HB.out.size))
      clear hb7 HB6 CE p0 r0 p1 r1 p2 r2 p3 r3
      cases t1
      · go_wp2
        go_ret
        refine ⟨?_, HB7.out⟩
        rw [HT.out]; rfl
      · go_wp2
        go_roundw
        case rel =>
          refine ⟨i + 1, by omega, by go_num, HB7.out, ?_⟩
          show _ = _
          rw [HT.out, HR.out]; rfl
        case measure => simp [intOf]; omega
    · have e1 : i = k := by omega
      have HE : Hid (eqfB sxB k k X Y = true) := by show _ = _; rw [HI.out, e1, Nat.sub_self]; rfl
      have i2 : ¬ (((i : Nat) : Int) < ((k : Nat) : Int)) := by omega
      clear e1 HI
      go_wp2
      go_ret
      refine ⟨?_, HB.out⟩
      rw [HE.out]; rfl
set_option maxRecDepth 100000 in
set_option maxHeartbeats 4000000 in
theorem equalCs_c {w : World} {ao bo : Option Addr} {k l cap cap' : Nat} {X Y : Nat → Lc} (hx : Cls w ao k X) (hy : Cls w bo l Y) (hk : k ≤ 1048576) (hl : l ≤ 1048576) :
    Calls Tryz.prog 60 #[.slice ao k cap, .slice bo l cap', .func (.func 61) #[] #[]] w fun e w' => e = .returned (.bool (eqfB scB k l X Y)) ∧ Below w.heap.size w w' := by
  have HX := hid hx; have HY := hid hy
  clear hx hy
  by_cases hkl : k = l
  case neg =>
    have HE := hid (show eqfB scB k l X Y = false from by simp [eqfB, hkl])
    have e1 : ((k : Int) != (l : Int)) = true := by simp; omega
    clear hkl
    go_enter Tryz.func60, Tryz.ntmps60
    go_wp2
    go_ret
    refine ⟨?_, Below.refl _ _⟩
    rw [HE.out]; rfl
  subst hkl
  have HE := hid (show eqfB scB k k X Y = eqf scB X Y k 0 from by simp [eqfB])
  have e1 : ((k : Int) != (k : Int)) = false := by simp
  go_enter Tryz.func60, Tryz.ntmps60
  go_wp2_with fail
  go_loopw [17] (fun t wr => ∃ (i : Nat), i ≤ k ∧ t = .int .i64 i ∧ Hid (Below w.heap.size w wr) ∧ Hid (eqfB scB k k X Y = eqf scB X Y (k - i) i)) (fun t _ => k - (intOf t).toNat)
  case atStart => exact ⟨0, by omega, rfl, Below.refl _ _, HE.out⟩
  case round =>
    obtain ⟨i, hi, rfl, HB, HI⟩ := hrel
    by_cases hlt : i < k
    · obtain ⟨b, o, rfl, hc, hn⟩ := HX.out i hlt
      obtain ⟨b2, o2, rfl, hc2, hn2⟩ := HY.out i hlt
      replace hc := hc.below HB.out; replace hc2 := hc2.below HB.out; replace hn := hn.below HB.out; replace hn2 := hn2.below HB.out
      obtain ⟨r, hr⟩ : ∃ r, k - i = r + 1 := ⟨k - i - 1, by omega⟩
      obtain ⟨t1, ht1⟩ : ∃ t, scB (X i) (Y i) = t := ⟨_, rfl⟩
      have hT : eqfB scB k k X Y = (t1 && eqf scB X Y r (i + 1)) := by rw [HI.out, hr, ← ht1]; rfl
      have hr2 : k - (i + 1) = r := by omega
      have CE := hid (fun w' (hw : Below wr.heap.size wr w') => sameCol_c (w := w') (hn.below hw) (hn2.below hw))
      rw [ht1] at CE
      obtain ⟨⟨z, ⟨s0, x0, n0, c0, f0, y0, m0, d0, g0⟩, ⟨i1, ⟨s1, x1, n1, c1, f1, y1, m1, d1, g1⟩⟩, ⟨i2, ⟨s2, x2, n2, c2, f2, y2, m2, d2, g2⟩⟩⟩, hCi⟩ : ∃ t, X i = t := ⟨_, rfl⟩
      obtain ⟨⟨vz, ⟨vs0, vx0, vn0, vc0, vf0, vy0, vm0, vd0, vg0⟩, ⟨vi1, ⟨vs1, vx1, vn1, vc1, vf1, vy1, vm1, vd1, vg1⟩⟩, ⟨vi2, ⟨vs2, vx2, vn2, vc2, vf2, vy2, vm2, vd2, vg2⟩⟩⟩, hCi2⟩ : ∃ t, Y i = t := ⟨_, rfl⟩
      rw [hCi] at hc CE
      rw [hCi2] at hc2 CE
      replace CE : Hid (∀ w' (hw : Below wr.heap.size wr w'), Calls Tryz.prog 61 #[.agg #[.string z, .bool s0, .slice x0 n0 c0, .slice y0 m0 d0, .int .i64 i1, .bool s1, .slice x1 n1 c1, .slice y1 m1 d1, .int .i64 i2, .bool s2, .slice x2 n2 c2, .slice y2 m2 d2], .agg #[.string vz, .bool vs0, .slice vx0 vn0 vc0, .slice vy0 vm0 vd0, .int .i64 vi1, .bool vs1, .slice vx1 vn1 vc1, .slice vy1 vm1 vd1, .int .i64 vi2, .bool vs2, .slice vx2 vn2 vc2, .slice vy2 vm2 vd2]] w' fun e w2 => e = .returned (.bool t1) ∧ Below w'.heap.size w' w2) := CE
      have hb1 := below_alloc (Below.refl wr.heap.size wr) (.cells #[.string z, .bool s0, .slice x0 n0 c0, .slice y0 m0 d0, .int .i64 i1, .bool s1, .slice x1 n1 c1, .slice y1 m1 d1, .int .i64 i2, .bool s2, .slice x2 n2 c2, .slice y2 m2 d2] 77)
      have q0 : wr.cell? ⟨b, o + i * 12, none⟩ = some (.string z) := hc 0 _ rfl
      have q1 : wr.cell? ⟨b, o + i * 12 + 1, none⟩ = some (.bool s0) := hc 1 _ rfl
      have q2 : wr.cell? ⟨b, o + i * 12 + 2, none⟩ = some (.slice x0 n0 c0) := hc 2 _ rfl
      have q3 : wr.cell? ⟨b, o + i * 12 + 3, none⟩ = some (.slice y0 m0 d0) := hc 3 _ rfl
      have q4 : wr.cell? ⟨b, o + i * 12 + 4, none⟩ = some (.int .i64 i1) := hc 4 _ rfl
      have q5 : wr.cell? ⟨b, o + i * 12 + 5, none⟩ = some (.bool s1) := hc 5 _ rfl
      have q6 : wr.cell? ⟨b, o + i * 12 + 6, none⟩ = some (.slice x1 n1 c1) := hc 6 _ rfl
      have q7 : wr.cell? ⟨b, o + i * 12 + 7, none⟩ = some (.slice y1 m1 d1) := hc 7 _ rfl
      have q8 : wr.cell? ⟨b, o + i * 12 + 8, none⟩ = some (.int .i64 i2) := hc 8 _ rfl
      have q9 : wr.cell? ⟨b, o + i * 12 + 9, none⟩ = some (.bool s2) := hc 9 _ rfl
      have q10 : wr.cell? ⟨b, o + i * 12 + 10, none⟩ = some (.slice x2 n2 c2) := hc 10 _ rfl
      have q11 : wr.cell? ⟨b, o + i * 12 + 11, none⟩ = some (.slice y2 m2 d2) := hc 11 _ rfl
      have g0' : (wr.alloc (.cells #[.string z, .bool s0, .slice x0 n0 c0, .slice y0 m0 d0, .int .i64 i1, .bool s1, .slice x1 n1 c1, .slice y1 m1 d1, .int .i64 i2, .bool s2, .slice x2 n2 c2, .slice y2 m2 d2] 77)).cell? ⟨b2, o2 + i * 12, none⟩ = some (.string vz) := kCb hb1 (hc2 0 _ rfl)
      have g1' : (wr.alloc (.cells #[.string z, .bool s0, .slice x0 n0 c0, .slice y0 m0 d0, .int .i64 i1, .bool s1, .slice x1 n1 c1, .slice y1 m1 d1, .int .i64 i2, .bool s2, .slice x2 n2 c2, .slice y2 m2 d2] 77)).cell? ⟨b2, o2 + i * 12 + 1, none⟩ = some (.bool vs0) := kCb hb1 (hc2 1 _ rfl)
      have g2' : (wr.alloc (.cells #[.string z, .bool s0, .slice x0 n0 c0, .slice y0 m0 d0, .int .i64 i1, .bool s1, .slice x1 n1 c1, .slice y1 m1 d1, .int .i64 i2, .bool s2, .slice x2 n2 c2, .slice y2 m2 d2] 77)).cell? ⟨b2, o2 + i * 12 + 2, none⟩ = some (.slice vx0 vn0 vc0) := kCb hb1 (hc2 2 _ rfl)
      have g3' : (wr.alloc (.cells #[.string z, .bool s0, .slice x0 n0 c0, .slice y0 m0 d0, .int .i64 i1, .bool s1, .slice x1 n1 c1, .slice y1 m1 d1, .int .i64 i2, .bool s2, .slice x2 n2 c2, .slice y2 m2 d2] 77)).cell? ⟨b2, o2 + i * 12 + 3, none⟩ = some (.slice vy0 vm0 vd0) := kCb hb1 (hc2 3 _ rfl)
      have g4' : (wr.alloc (.cells #[.string z, .bool s0, .slice x0 n0 c0, .slice y0 m0 d0, .int .i64 i1, .bool s1, .slice x1 n1 c1, .slice y1 m1 d1, .int .i64 i2, .bool s2, .slice x2 n2 c2, .slice y2 m2 d2] 77)).cell? ⟨b2, o2 + i * 12 + 4, none⟩ = some (.int .i64 vi1) := kCb hb1 (hc2 4 _ rfl)
      have g5' : (wr.alloc (.cells #[.string z, .bool s0, .slice x0 n0 c0, .slice y0 m0 d0, .int .i64 i1, .bool s1, .slice x1 n1 c1, .slice y1 m1 d1, .int .i64 i2, .bool s2, .slice x2 n2 c2, .slice y2 m2 d2] 77)).cell? ⟨b2, o2 + i * 12 + 5, none⟩ = some (.bool vs1) := kCb hb1 (hc2 5 _ rfl)
      have g6' : (wr.alloc (.cells #[.string z, .bool s0, .slice x0 n0 c0, .slice y0 m0 d0, .int .i64 i1, .bool s1, .slice x1 n1 c1, .slice y1 m1 d1, .int .i64 i2, .bool s2, .slice x2 n2 c2, .slice y2 m2 d2] 77)).cell? ⟨b2, o2 + i * 12 + 6, none⟩ = some (.slice vx1 vn1 vc1) := kCb hb1 (hc2 6 _ rfl)
      have g7' : (wr.alloc (.cells #[.string z, .bool s0, .slice x0 n0 c0, .slice y0 m0 d0, .int .i64 i1, .bool s1, .slice x1 n1 c1, .slice y1 m1 d1, .int .i64 i2, .bool s2, .slice x2 n2 c2, .slice y2 m2 d2] 77)).cell? ⟨b2, o2 + i * 12 + 7, none⟩ = some (.slice vy1 vm1 vd1) := kCb hb1 (hc2 7 _ rfl)
      have g8' : (wr.alloc (.cells #[.string z, .bool s0, .slice x0 n0 c0, .slice y0 m0 d0, .int .i64 i1, .bool s1, .slice x1 n1 c1, .slice y1 m1 d1, .int .i64 i2, .bool s2, .slice x2 n2 c2, .slice y2 m2 d2] 77)).cell? ⟨b2, o2 + i * 12 + 8, none⟩ = some (.int .i64 vi2) := kCb hb1 (hc2 8 _ rfl)
      have g9' : (wr.alloc (.cells #[.string z, .bool s0, .slice x0 n0 c0, .slice y0 m0 d0, .int .i64 i1, .bool s1, .slice x1 n1 c1, .slice y1 m1 d1, .int .i64 i2, .bool s2, .slice x2 n2 c2, .slice y2 m2 d2] 77)).cell? ⟨b2, o2 + i * 12 + 9, none⟩ = some (.bool vs2) := kCb hb1 (hc2 9 _ rfl)
      have g10' : (wr.alloc (.cells #[.string z, .bool s0, .slice x0 n0 c0, .slice y0 m0 d0, .int .i64 i1, .bool s1, .slice x1 n1 c1, .slice y1 m1 d1, .int .i64 i2, .bool s2, .slice x2 n2 c2, .slice y2 m2 d2] 77)).cell? ⟨b2, o2 + i * 12 + 10, none⟩ = some (.slice vx2 vn2 vc2) := kCb hb1 (hc2 10 _ rfl)
      have g11' : (wr.alloc (.cells #[.string z, .bool s0, .slice x0 n0 c0, .slice y0 m0 d0, .int .i64 i1, .bool s1, .slice x1 n1 c1, .slice y1 m1 d1, .int .i64 i2, .bool s2, .slice x2 n2 c2, .slice y2 m2 d2] 77)).cell? ⟨b2, o2 + i * 12 + 11, none⟩ = some (.slice vy2 vm2 vd2) := kCb hb1 (hc2 11 _ rfl)
      have p0 : ((wr.alloc (.cells #[.string z, .bool s0, .slice x0 n0 c0, .slice y0 m0 d0, .int .i64 i1, .bool s1, .slice x1 n1 c1, .slice y1 m1 d1, .int .i64 i2, .bool s2, .slice x2 n2 c2, .slice y2 m2 d2] 77)).alloc (.cells #[.string vz, .bool vs0, .slice vx0 vn0 vc0, .slice vy0 vm0 vd0, .int .i64 vi1, .bool vs1, .slice vx1 vn1 vc1, .slice vy1 vm1 vd1, .int .i64 vi2, .bool vs2, .slice vx2 vn2 vc2, .slice vy2 vm2 vd2] 77)).cell? ⟨wr.heap.size, 0, none⟩ = some (.string z) := by simp [go_sem]
      have p1 : ((wr.alloc (.cells #[.string z, .bool s0, .slice x0 n0 c0, .slice y0 m0 d0, .int .i64 i1, .bool s1, .slice x1 n1 c1, .slice y1 m1 d1, .int .i64 i2, .bool s2, .slice x2 n2 c2, .slice y2 m2 d2] 77)).alloc (.cells #[.string vz, .bool vs0, .slice vx0 vn0 vc0, .slice vy0 vm0 vd0, .int .i64 vi1, .bool vs1, .slice vx1 vn1 vc1, .slice vy1 vm1 vd1, .int .i64 vi2, .bool vs2, .slice vx2 vn2 vc2, .slice vy2 vm2 vd2] 77)).cell? ⟨wr.heap.size, 1, none⟩ = some (.bool s0) := by simp [go_sem]
      have p2 : ((wr.alloc (.cells #[.string z, .bool s0, .slice x0 n0 c0, .slice y0 m0 d0, .int .i64 i1, .bool s1, .slice x1 n1 c1, .slice y1 m1 d1, .int .i64 i2, .bool s2, .slice x2 n2 c2, .slice y2 m2 d2] 77)).alloc (.cells #[.string vz, .bool vs0, .slice vx0 vn0 vc0, .slice vy0 vm0 vd0, .int .i64 vi1, .bool vs1, .slice vx1 vn1 vc1, .slice vy1 vm1 vd1, .int .i64 vi2, .bool vs2, .slice vx2 vn2 vc2, .slice vy2 vm2 vd2] 77)).cell? ⟨wr.heap.size, 2, none⟩ = some (.slice x0 n0 c0) := by simp [go_sem]
      have p3 : ((wr.alloc (.cells #[.string z, .bool s0, .slice x0 n0 c0, .slice y0 m0 d0, .int .i64 i1, .bool s1, .slice x1 n1 c1, .slice y1 m1 d1, .int .i64 i2, .bool s2, .slice x2 n2 c2, .slice y2 m2 d2] 77)).alloc (.cells #[.string vz, .bool vs0, .slice vx0 vn0 vc0, .slice vy0 vm0 vd0, .int .i64 vi1, .bool vs1, .slice vx1 vn1 vc1, .slice vy1 vm1 vd1, .int .i64 vi2, .bool vs2, .slice vx2 vn2 vc2, .slice vy2 vm2 vd2] 77)).cell? ⟨wr.heap.size, 3, none⟩ = some (.slice y0 m0 d0) := by simp [go_sem]
      have p4 : ((wr.alloc (.cells #[.string z, .bool s0, .slice x0 n0 c0, .slice y0 m0 d0, .int .i64 i1, .bool s1, .slice x1 n1 c1, .slice y1 m1 d1, .int .i64 i2, .bool s2, .slice x2 n2 c2, .slice y2 m2 d2] 77)).alloc (.cells #[.string vz, .bool vs0, .slice vx0 vn0 vc0, .slice vy0 vm0 vd0, .int .i64 vi1, .bool vs1, .slice vx1 vn1 vc1, .slice vy1 vm1 vd1, .int .i64 vi2, .bool vs2, .slice vx2 vn2 vc2, .slice vy2 vm2 vd2] 77)).cell? ⟨wr.heap.size, 4, none⟩ = some (.int .i64 i1) := by simp [go_sem]
      have p5 : ((wr.alloc (.cells #[.string z, .bool s0, .slice x0 n0 c0, .slice y0 m0 d0, .int .i64 i1, .bool s1, .slice x1 n1 c1, .slice y1 m1 d1, .int .i64 i2, .bool s2, .slice x2 n2 c2, .slice y2 m2 d2] 77)).alloc (.cells #[.string vz, .bool vs0, .slice vx0 vn0 vc0, .slice vy0 vm0 vd0, .int .i64 vi1, .bool vs1, .slice vx1 vn1 vc1, .slice vy1 vm1 vd1, .int .i64 vi2, .bool vs2, .slice vx2 vn2 vc2, .slice vy2 vm2 vd2] 77)).cell? ⟨wr.heap.size, 5, none⟩ = some (.bool s1) := by simp [go_sem]
      have p6 : ((wr.alloc (.cells #[.string z, .bool s0, .slice x0 n0 c0, .slice y0 m0 d0, .int .i64 i1, .bool s1, .slice x1 n1 c1, .slice y1 m1 d1, .int .i64 i2, .bool s2, .slice x2 n2 c2, .slice y2 m2 d2] 77)).alloc (.cells #[.string vz, .bool vs0, .slice vx0 vn0 vc0, .slice vy0 vm0 vd0, .int .i64 vi1, .bool vs1, .slice vx1 vn1 vc1, .slice vy1 vm1 vd1, .int .i64 vi2, .bool vs2, .slice vx2 vn2 vc2, .slice vy2 vm2 vd2] 77)).cell? ⟨wr.heap.size, 6, none⟩ = some (.slice x1 n1 c1) := by simp [go_sem]
      have p7 : ((wr.alloc (.cells #[.string z, .bool s0, .slice x0 n0 c0, .slice y0 m0 d0, .int .i64 i1, .bool s1, .slice x1 n1 c1, .slice y1 m1 d1, .int .i64 i2, .bool s2, .slice x2 n2 c2, .slice y2 m2 d2] 77)).alloc (.cells #[.string vz, .bool vs0, .slice vx0 vn0 vc0, .slice vy0 vm0 vd0, .int .i64 vi1, .bool vs1, .slice vx1 vn1 vc1, .slice vy1 vm1 vd1, .int .i64 vi2, .bool vs2, .slice vx2 vn2 vc2, .slice vy2 vm2 vd2] 77)).cell? ⟨wr.heap.size, 7, none⟩ = some (.slice y1 m1 d1) := by simp [go_sem]
      have p8 : ((wr.alloc (.cells #[.string z, .bool s0, .slice x0 n0 c0, .slice y0 m0 d0, .int .i64 i1, .bool s1, .slice x1 n1 c1, .slice y1 m1 d1, .int .i64 i2, .bool s2, .slice x2 n2 c2, .slice y2 m2 d2] 77)).alloc (.cells #[.string vz, .bool vs0, .slice vx0 vn0 vc0, .slice vy0 vm0 vd0, .int .i64 vi1, .bool vs1, .slice vx1 vn1 vc1, .slice vy1 vm1 vd1, .int .i64 vi2, .bool vs2, .slice vx2 vn2 vc2, .slice vy2 vm2 vd2] 77)).cell? ⟨wr.heap.size, 8, none⟩ = some (.int .i64 i2) := by simp [go_sem]
      have p9 : ((wr.alloc (.cells #[.string z, .bool s0, .slice x0 n0 c0, .slice y0 m0 d0, .int .i64 i1, .bool s1, .slice x1 n1 c1, .slice y1 m1 d1, .int .i64 i2, .bool s2, .slice x2 n2 c2, .slice y2 m2 d2] 77)).alloc (.cells #[.string vz, .bool vs0, .slice vx0 vn0 vc0, .slice vy0 vm0 vd0, .int .i64 vi1, .bool vs1, .slice vx1 vn1 vc1, .slice vy1 vm1 vd1, .int .i64 vi2, .bool vs2, .slice vx2 vn2 vc2, .slice vy2 vm2 vd2] 77)).cell? ⟨wr.heap.size, 9, none⟩ = some (.bool s2) := by simp [go_sem]
      have p10 : ((wr.alloc (.cells #[.string z, .bool s0, .slice x0 n0 c0, .slice y0 m0 d0, .int .i64 i1, .bool s1, .slice x1 n1 c1, .slice y1 m1 d1, .int .i64 i2, .bool s2, .slice x2 n2 c2, .slice y2 m2 d2] 77)).alloc (.cells #[.string vz, .bool vs0, .slice vx0 vn0 vc0, .slice vy0 vm0 vd0, .int .i64 vi1, .bool vs1, .slice vx1 vn1 vc1, .slice vy1 vm1 vd1, .int .i64 vi2, .bool vs2, .slice vx2 vn2 vc2, .slice vy2 vm2 vd2] 77)).cell? ⟨wr.heap.size, 10, none⟩ = some (.slice x2 n2 c2) := by simp [go_sem]
      have p11 : ((wr.alloc (.cells #[.string z, .bool s0, .slice x0 n0 c0, .slice y0 m0 d0, .int .i64 i1, .bool s1, .slice x1 n1 c1, .slice y1 m1 d1, .int .i64 i2, .bool s2, .slice x2 n2 c2, .slice y2 m2 d2] 77)).alloc (.cells #[.string vz, .bool vs0, .slice vx0 vn0 vc0, .slice vy0 vm0 vd0, .int .i64 vi1, .bool vs1, .slice vx1 vn1 vc1, .slice vy1 vm1 vd1, .int .i64 vi2, .bool vs2, .slice vx2 vn2 vc2, .slice vy2 vm2 vd2] 77)).cell? ⟨wr.heap.size, 11, none⟩ = some (.slice y2 m2 d2) := by simp [go_sem]
      have r0 : ((wr.alloc (.cells #[.string z, .bool s0, .slice x0 n0 c0, .slice y0 m0 d0, .int .i64 i1, .bool s1, .slice x1 n1 c1, .slice y1 m1 d1, .int .i64 i2, .bool s2, .slice x2 n2 c2, .slice y2 m2 d2] 77)).alloc (.cells #[.string vz, .bool vs0, .slice vx0 vn0 vc0, .slice vy0 vm0 vd0, .int .i64 vi1, .bool vs1, .slice vx1 vn1 vc1, .slice vy1 vm1 vd1, .int .i64 vi2, .bool vs2, .slice vx2 vn2 vc2, .slice vy2 vm2 vd2] 77)).cell? ⟨wr.heap.size + 1, 0, none⟩ = some (.string vz) := by simp [go_sem]
      have r1 : ((wr.alloc (.cells #[.string z, .bool s0, .slice x0 n0 c0, .slice y0 m0 d0, .int .i64 i1, .bool s1, .slice x1 n1 c1, .slice y1 m1 d1, .int .i64 i2, .bool s2, .slice x2 n2 c2, .slice y2 m2 d2] 77)).alloc (.cells #[.string vz, .bool vs0, .slice vx0 vn0 vc0, .slice vy0 vm0 vd0, .int .i64 vi1, .bool vs1, .slice vx1 vn1 vc1, .slice vy1 vm1 vd1, .int .i64 vi2, .bool vs2, .slice vx2 vn2 vc2, .slice vy2 vm2 vd2] 77)).cell? ⟨wr.heap.size + 1, 1, none⟩ = some (.bool vs0) := by simp [go_sem]
      have r2 : ((wr.alloc (.cells #[.string z, .bool s0, .slice x0 n0 c0, .slice y0 m0 d0, .int .i64 i1, .bool s1, .slice x1 n1 c1, .slice y1 m1 d1, .int .i64 i2, .bool s2, .slice x2 n2 c2, .slice y2 m2 d2] 77)).alloc (.cells #[.string vz, .bool vs0, .slice vx0 vn0 vc0, .slice vy0 vm0 vd0, .int .i64 vi1, .bool vs1, .slice vx1 vn1 vc1, .slice vy1 vm1 vd1, .int .i64 vi2, .bool vs2, .slice vx2 vn2 vc2, .slice vy2 vm2 vd2] 77)).cell? ⟨wr.heap.size + 1, 2, none⟩ = some (.slice vx0 vn0 vc0) := by simp [go_sem]
      have r3 : ((wr.alloc (.cells #[.string z, .bool s0, .slice x0 n0 c0, .slice y0 m0 d0, .int .i64 i1, .bool s1, .slice x1 n1 c1, .slice y1 m1 d1, .int .i64 i2, .bool s2, .slice x2 n2 c2, .slice y2 m2 d2] 77)).alloc (.cells #[.string vz, .bool vs0, .slice vx0 vn0 vc0, .slice vy0 vm0 vd0, .int .i64 vi1, .bool vs1, .slice vx1 vn1 vc1, .slice vy1 vm1 vd1, .int .i64 vi2, .bool vs2, .slice vx2 vn2 vc2, .slice vy2 vm2 vd2] 77)).cell? ⟨wr.heap.size + 1, 3, none⟩ = some (.slice vy0 vm0 vd0) := by simp [go_sem]
      have r4 : ((wr.alloc (.cells #[.string z, .bool s0, .slice x0 n0 c0, .slice y0 m0 d0, .int .i64 i1, .bool s1, .slice x1 n1 c1, .slice y1 m1 d1, .int .i64 i2, .bool s2, .slice x2 n2 c2, .slice y2 m2 d2] 77)).alloc (.cells #[.string vz, .bool vs0, .slice vx0 vn0 vc0, .slice vy0 vm0 vd0, .int .i64 vi1, .bool vs1, .slice vx1 vn1 vc1, .slice vy1 vm1 vd1, .int .i64 vi2, .bool vs2, .slice vx2 vn2 vc2, .slice vy2 vm2 vd2] 77)).cell? ⟨wr.heap.size + 1, 4, none⟩ = some (.int .i64 vi1) := by simp [go_sem]
      have r5 : ((wr.alloc (.cells #[.string z, .bool s0, .slice x0 n0 c0, .slice y0 m0 d0, .int .i64 i1, .bool s1, .slice x1 n1 c1, .slice y1 m1 d1, .int .i64 i2, .bool s2, .slice x2 n2 c2, .slice y2 m2 d2] 77)).alloc (.cells #[.string vz, .bool vs0, .slice vx0 vn0 vc0, .slice vy0 vm0 vd0, .int .i64 vi1, .bool vs1, .slice vx1 vn1 vc1, .slice vy1 vm1 vd1, .int .i64 vi2, .bool vs2, .slice vx2 vn2 vc2, .slice vy2 vm2 vd2] 77)).cell? ⟨wr.heap.size + 1, 5, none⟩ = some (.bool vs1) := by simp [go_sem]
      have r6 : ((wr.alloc (.cells #[.string z, .bool s0, .slice x0 n0 c0, .slice y0 m0 d0, .int .i64 i1, .bool s1, .slice x1 n1 c1, .slice y1 m1 d1, .int .i64 i2, .bool s2, .slice x2 n2 c2, .slice y2 m2 d2] 77)).alloc (.cells #[.string vz, .bool vs0, .slice vx0 vn0 vc0, .slice vy0 vm0 vd0, .int .i64 vi1, .bool vs1, .slice vx1 vn1 vc1, .slice vy1 vm1 vd1, .int .i64 vi2, .bool vs2, .slice vx2 vn2 vc2, .slice vy2 vm2 vd2] 77)).cell? ⟨wr.heap.size + 1, 6, none⟩ = some (.slice vx1 vn1 vc1) := by simp [go_sem]
      have r7 : ((wr.alloc (.cells #[.string z, .bool s0, .slice x0 n0 c0, .slice y0 m0 d0, .int .i64 i1, .bool s1, .slice x1 n1 c1, .slice y1 m1 d1, .int .i64 i2, .bool s2, .slice x2 n2 c2, .slice y2 m2 d2] 77)).alloc (.cells #[.string vz, .bool vs0, .slice vx0 vn0 vc0, .slice vy0 vm0 vd0, .int .i64 vi1, .bool vs1, .slice vx1 vn1 vc1, .slice vy1 vm1 vd1, .int .i64 vi2, .bool vs2, .slice vx2 vn2 vc2, .slice vy2 vm2 vd2] 77)).cell? ⟨wr.heap.size + 1, 7, none⟩ = some (.slice vy1 vm1 vd1) := by simp [go_sem]
      have r8 : ((wr.alloc (.cells #[.string z, .bool s0, .slice x0 n0 c0, .slice y0 m0 d0, .int .i64 i1, .bool s1, .slice x1 n1 c1, .slice y1 m1 d1, .int .i64 i2, .bool s2, .slice x2 n2 c2, .slice y2 m2 d2] 77)).alloc (.cells #[.string vz, .bool vs0, .slice vx0 vn0 vc0, .slice vy0 vm0 vd0, .int .i64 vi1, .bool vs1, .slice vx1 vn1 vc1, .slice vy1 vm1 vd1, .int .i64 vi2, .bool vs2, .slice vx2 vn2 vc2, .slice vy2 vm2 vd2] 77)).cell? ⟨wr.heap.size + 1, 8, none⟩ = some (.int .i64 vi2) := by simp [go_sem]
      have r9 : ((wr.alloc (.cells #[.string z, .bool s0, .slice x0 n0 c0, .slice y0 m0 d0, .int .i64 i1, .bool s1, .slice x1 n1 c1, .slice y1 m1 d1, .int .i64 i2, .bool s2, .slice x2 n2 c2, .slice y2 m2 d2] 77)).alloc (.cells #[.string vz, .bool vs0, .slice vx0 vn0 vc0, .slice vy0 vm0 vd0, .int .i64 vi1, .bool vs1, .slice vx1 vn1 vc1, .slice vy1 vm1 vd1, .int .i64 vi2, .bool vs2, .slice vx2 vn2 vc2, .slice vy2 vm2 vd2] 77)).cell? ⟨wr.heap.size + 1, 9, none⟩ = some (.bool vs2) := by simp [go_sem]
      have r10 : ((wr.alloc (.cells #[.string z, .bool s0, .slice x0 n0 c0, .slice y0 m0 d0, .int .i64 i1, .bool s1, .slice x1 n1 c1, .slice y1 m1 d1, .int .i64 i2, .bool s2, .slice x2 n2 c2, .slice y2 m2 d2] 77)).alloc (.cells #[.string vz, .bool vs0, .slice vx0 vn0 vc0, .slice vy0 vm0 vd0, .int .i64 vi1, .bool vs1, .slice vx1 vn1 vc1, .slice vy1 vm1 vd1, .int .i64 vi2, .bool vs2, .slice vx2 vn2 vc2, .slice vy2 vm2 vd2] 77)).cell? ⟨wr.heap.size + 1, 10, none⟩ = some (.slice vx2 vn2 vc2) := by simp [go_sem]
      have r11 : ((wr.alloc (.cells #[.string z, .bool s0, .slice x0 n0 c0, .slice y0 m0 d0, .int .i64 i1, .bool s1, .slice x1 n1 c1, .slice y1 m1 d1, .int .i64 i2, .bool s2, .slice x2 n2 c2, .slice y2 m2 d2] 77)).alloc (.cells #[.string vz, .bool vs0, .slice vx0 vn0 vc0, .slice vy0 vm0 vd0, .int .i64 vi1, .bool vs1, .slice vx1 vn1 vc1, .slice vy1 vm1 vd1, .int .i64 vi2, .bool vs2, .slice vx2 vn2 vc2, .slice vy2 vm2 vd2] 77)).cell? ⟨wr.heap.size + 1, 11, none⟩ = some (.slice vy2 vm2 vd2) := by simp [go_sem]
      have HB6 := hid (below_alloc hb1 (.cells #[.string vz, .bool vs0, .slice vx0 vn0 vc0, .slice vy0 vm0 vd0, .int .i64 vi1, .bool vs1, .slice vx1 vn1 vc1, .slice vy1 vm1 vd1, .int .i64 vi2, .bool vs2, .slice vx2 vn2 vc2, .slice vy2 vm2 vd2] 77))
      have HT := hid hT; have HR := hid hr2
      have i1' : ((i : Nat) : Int) < ((k : Nat) : Int) := by omega
      clear hT hr2 hr hCi hCi2 ht1 hc hc2 hn hn2 hb1
      go_upto_region 7 with fail
      clear q0 g0' q1 g1' q2 g2' q3 g3' q4 g4' q5 g5' q6 g6' q7 g7' q8 g8' q9 g9' q10 g10' q11 g11'
      generalize ((wr.alloc (.cells #[.string z, .bool s0, .slice x0 n0 c0, .slice y0 m0 d0, .int .i64 i1, .bool s1, .slice x1 n1 c1, .slice y1 m1 d1, .int .i64 i2, .bool s2, .slice x2 n2 c2, .slice y2 m2 d2] 77)).alloc (.cells #[.string vz, .bool vs0, .slice vx0 vn0 vc0, .slice vy0 vm0 vd0, .int .i64 vi1, .bool vs1, .slice vx1 vn1 vc1, .slice vy1 vm1 vd1, .int .i64 vi2, .bool vs2, .slice vx2 vn2 vc2, .slice vy2 vm2 vd2] 77)) = w6 at *
      go_wp2_with fail
      refine (CE.out _ HB6.out).mono ?_
      rintro e w7 ⟨rfl, hb7⟩
      have HB7 := hid (HB.out.trans ((HB6.out.trans (hb7.mono HB6.out.size)).mono HB.out.size))
      clear hb7 HB6 CE p0 r0 p1 r1 p2 r2 p3 r3 p4 r4 p5 r5 p6 r6 p7 r7 p8 r8 p9 r9 p10 r10 p11 r11
      cases t1
      · go_wp2
        go_ret
        refine ⟨?_, HB7.out⟩
        rw [HT.out]; rfl
      · go_wp2
        go_roundw
        case rel =>
          refine ⟨i + 1, by omega, by go_num, HB7.out, ?_⟩
          show _ = _
          rw [HT.out, HR.out]; rfl
        case measure => simp [intOf]; omega
    · have e1 : i = k := by omega
      have HE : Hid (eqfB scB k k X Y = true) := by show _ = _; rw [HI.out, e1, Nat.sub_self]; rfl
      have i2 : ¬ (((i : Nat) : Int) < ((k : Nat) : Int)) := by omega
      clear e1 HI
      go_wp2
      go_ret
      refine ⟨?_, HB.out⟩
      rw [HE.out]; rfl
/-- Are two rows the same? -/
def srB (a b : Lr) : Bool := decide (a.nm = b.nm) && (sxB a.lo b.lo && (sxB a.hi b.hi && eqfB sxB a.tk b.tk (tex a.col a.T) (tex b.col b.T)))
def Lr.val (c : Lr) : Value := .agg c.vs.toArray
set_option maxRecDepth 100000 in
set_option maxHeartbeats 4000000 in
theorem sameRow_c {w : World} {a b : Lr} (ha : LrR w a) (hb : LrR w b) : Calls Tryz.prog 63 #[a.val, b.val] w fun r w' => r = .returned (.bool (srB a b)) ∧ Below w.heap.size w w' := by
  have C1 := hid (fun w' (hw : Below w.heap.size w w') => sameExt_c (w := w') (ha.lo.below hw) (hb.lo.below hw))
  have C2 := hid (fun w' (hw : Below w.heap.size w w') => sameExt_c (w := w') (ha.hi.below hw) (hb.hi.below hw))
  have C3 := hid (fun w' (hw : Below w.heap.size w w') => equalTs_c (w := w') (cap := a.tc) (cap' := b.tc) ((ha.tl.below hw).tex) ((hb.tl.below hw).tex) ha.tk hb.tk)
  obtain ⟨t1, ht1⟩ : ∃ t, sxB a.lo b.lo = t := ⟨_, rfl⟩
  obtain ⟨t2, ht2⟩ : ∃ t, sxB a.hi b.hi = t := ⟨_, rfl⟩
  obtain ⟨t3, ht3⟩ : ∃ t, eqfB sxB a.tk b.tk (tex a.col a.T) (tex b.col b.T) = t := ⟨_, rfl⟩
  obtain ⟨ans, hans⟩ : ∃ t, srB a b = t := ⟨_, rfl⟩
  have hA : ans = (decide (a.nm = b.nm) && (t1 && (t2 && t3))) := by rw [← hans, ← ht1, ← ht2, ← ht3]; rfl
  rw [ht1] at C1
  rw [ht2] at C2
  rw [ht3] at C3
  rw [hans]
  clear hans ht1 ht2 ht3 ha hb
  obtain ⟨z, ⟨i1, ⟨s1, x1, n1, c1, f1, y1, m1, d1, g1⟩⟩, ⟨i2, ⟨s2, x2, n2, c2, f2, y2, m2, d2, g2⟩⟩, ta, tk, tc, tcol, tt⟩ := a
  obtain ⟨vz, ⟨vi1, ⟨vs1, vx1, vn1, vc1, vf1, vy1, vm1, vd1, vg1⟩⟩, ⟨vi2, ⟨vs2, vx2, vn2, vc2, vf2, vy2, vm2, vd2, vg2⟩⟩, vta, vtk, vtc, vtcol, vtt⟩ := b
  have HA : Hid (ans = (decide (z = vz) && (t1 && (t2 && t3)))) := hA
  replace C1 : Hid (∀ w' (hw : Below w.heap.size w w'), Calls Tryz.prog 91 #[.agg #[.int .i64 i1, .bool s1, .slice x1 n1 c1, .slice y1 m1 d1], .agg #[.int .i64 vi1, .bool vs1, .slice vx1 vn1 vc1, .slice vy1 vm1 vd1]] w' fun e w2 => e = .returned (.bool t1) ∧ Below w'.heap.size w' w2) := C1
  replace C2 : Hid (∀ w' (hw : Below w.heap.size w w'), Calls Tryz.prog 91 #[.agg #[.int .i64 i2, .bool s2, .slice x2 n2 c2, .slice y2 m2 d2], .agg #[.int .i64 vi2, .bool vs2, .slice vx2 vn2 vc2, .slice vy2 vm2 vd2]] w' fun e w2 => e = .returned (.bool t2) ∧ Below w'.heap.size w' w2) := C2
  replace C3 : Hid (∀ w' (hw : Below w.heap.size w w'), Calls Tryz.prog 92 #[.slice ta tk tc, .slice vta vtk vtc, .func (.func 93) #[] #[]] w' fun e w2 => e = .returned (.bool t3) ∧ Below w'.heap.size w' w2) := C3
  clear hA
  show Calls Tryz.prog 63 #[.agg #[.string z, .int .i64 i1, .bool s1, .slice x1 n1 c1, .slice y1 m1 d1, .int .i64 i2, .bool s2, .slice x2 n2 c2, .slice y2 m2 d2, .slice ta tk tc], .agg #[.string vz, .int .i64 vi1, .bool vs1, .slice vx1 vn1 vc1, .slice vy1 vm1 vd1, .int .i64 vi2, .bool vs2, .slice vx2 vn2 vc2, .slice vy2 vm2 vd2, .slice vta vtk vtc]] w _
  have HB0 := hid (below_alloc (below_alloc (Below.refl w.heap.size w) (.cells #[.string z, .int .i64 i1, .bool s1, .slice x1 n1 c1, .slice y1 m1 d1, .int .i64 i2, .bool s2, .slice x2 n2 c2, .slice y2 m2 d2, .slice ta tk tc] 75)) (.cells #[.string vz, .int .i64 vi1, .bool vs1, .slice vx1 vn1 vc1, .slice vy1 vm1 vd1, .int .i64 vi2, .bool vs2, .slice vx2 vn2 vc2, .slice vy2 vm2 vd2, .slice vta vtk vtc] 75))
  by_cases hs : z = vz
  case neg =>
    have HS := hid (show decide (z = vz) = false from by simp [hs])
    have e1 := str_ne hs
    go_enter Tryz.func63, Tryz.ntmps63
    go_wp2
    go_ret
    refine ⟨?_, HB0.out⟩
    rw [HA.out, HS.out]; rfl
  subst hs
  have HS := hid (show decide (z = z) = true from by simp)
  have e1 : (z.toList == z.toList) = true := by simp
  go_enter Tryz.func63, Tryz.ntmps63
  go_wp2_with fail
  refine (C1.out _ HB0.out).mono ?_
  rintro r w1 ⟨rfl, hb1⟩
  have p5 := kCb hb1 (a := ⟨w.heap.size, 5, none⟩) (v := .int .i64 i2) (by simp [go_sem])
  have r5 := kCb hb1 (a := ⟨w.heap.size + 1, 5, none⟩) (v := .int .i64 vi2) (by simp [go_sem])
  have p6 := kCb hb1 (a := ⟨w.heap.size, 6, none⟩) (v := .bool s2) (by simp [go_sem])
  have r6 := kCb hb1 (a := ⟨w.heap.size + 1, 6, none⟩) (v := .bool vs2) (by simp [go_sem])
  have p7 := kCb hb1 (a := ⟨w.heap.size, 7, none⟩) (v := .slice x2 n2 c2) (by simp [go_sem])
  have r7 := kCb hb1 (a := ⟨w.heap.size + 1, 7, none⟩) (v := .slice vx2 vn2 vc2) (by simp [go_sem])
  have p8 := kCb hb1 (a := ⟨w.heap.size, 8, none⟩) (v := .slice y2 m2 d2) (by simp [go_sem])
  have r8 := kCb hb1 (a := ⟨w.heap.size + 1, 8, none⟩) (v := .slice vy2 vm2 vd2) (by simp [go_sem])
  have p9 := kCb hb1 (a := ⟨w.heap.size, 9, none⟩) (v := .slice ta tk tc) (by simp [go_sem])
  have r9 := kCb hb1 (a := ⟨w.heap.size + 1, 9, none⟩) (v := .slice vta vtk vtc) (by simp [go_sem])
  have HB1 := hid (HB0.out.trans (hb1.mono HB0.out.size))
  clear hb1 C1
  cases t1
  · go_wp2
    go_ret
    refine ⟨?_, HB1.out⟩
    rw [HA.out, HS.out]; rfl
  go_wp2_with fail
  refine (C2.out _ HB1.out).mono ?_
  rintro r w2 ⟨rfl, hb2⟩
  replace p9 := kCb hb2 p9; replace r9 := kCb hb2 r9
  have HB2 := hid (HB1.out.trans (hb2.mono HB1.out.size))
  clear hb2 C2
  cases t2
  · go_wp2
    go_ret
    refine ⟨?_, HB2.out⟩
    rw [HA.out, HS.out]; rfl
  go_wp2_with fail
  refine (C3.out _ HB2.out).mono ?_
  rintro r w3 ⟨rfl, hb3⟩
  have HB3 := hid (HB2.out.trans (hb3.mono HB2.out.size))
  clear hb3 C3
  cases t3
  · go_wp2
    go_ret
    refine ⟨?_, HB3.out⟩
    rw [HA.out, HS.out]; rfl
  · go_wp2
    go_ret
    refine ⟨?_, HB3.out⟩
    rw [HA.out, HS.out]; rfl
set_option maxRecDepth 100000 in
set_option maxHeartbeats 4000000 in
theorem equalRs_c {w : World} {ao bo : Option Addr} {k l cap cap' : Nat} {X Y : Nat → Lr} (hx : Rls w ao k X) (hy : Rls w bo l Y) (hk : k ≤ 1048576) (hl : l ≤ 1048576) :
    Calls Tryz.prog 62 #[.slice ao k cap, .slice bo l cap', .func (.func 63) #[] #[]] w fun e w' => e = .returned (.bool (eqfB srB k l X Y)) ∧ Below w.heap.size w w' := by
  have HX := hid hx; have HY := hid hy
  clear hx hy
  by_cases hkl : k = l
  case neg =>
    have HE := hid (show eqfB srB k l X Y = false from by simp [eqfB, hkl])
    have e1 : ((k : Int) != (l : Int)) = true := by simp; omega
    clear hkl
    go_enter Tryz.func62, Tryz.ntmps62
    go_wp2
    go_ret
    refine ⟨?_, Below.refl _ _⟩
    rw [HE.out]; rfl
  subst hkl
  have HE := hid (show eqfB srB k k X Y = eqf srB X Y k 0 from by simp [eqfB])
  have e1 : ((k : Int) != (k : Int)) = false := by simp
  go_enter Tryz.func62, Tryz.ntmps62
  go_wp2_with fail
  go_loopw [17] (fun t wr => ∃ (i : Nat), i ≤ k ∧ t = .int .i64 i ∧ Hid (Below w.heap.size w wr) ∧ Hid (eqfB srB k k X Y = eqf srB X Y (k - i) i)) (fun t _ => k - (intOf t).toNat)
  case atStart => exact ⟨0, by omega, rfl, Below.refl _ _, HE.out⟩
  case round =>
    obtain ⟨i, hi, rfl, HB, HI⟩ := hrel
    by_cases hlt : i < k
    · obtain ⟨b, o, rfl, hc, hn⟩ := HX.out i hlt
      obtain ⟨b2, o2, rfl, hc2, hn2⟩ := HY.out i hlt
      replace hc := hc.below HB.out; replace hc2 := hc2.below HB.out; replace hn := hn.below HB.out; replace hn2 := hn2.below HB.out
      obtain ⟨r, hr⟩ : ∃ r, k - i = r + 1 := ⟨k - i - 1, by omega⟩
      obtain ⟨t1, ht1⟩ : ∃ t, srB (X i) (Y i) = t := ⟨_, rfl⟩
      have hT : eqfB srB k k X Y = (t1 && eqf srB X Y r (i + 1)) := by rw [HI.out, hr, ← ht1]; rfl
      have hr2 : k - (i + 1) = r := by omega
      have CE := hid (fun w' (hw : Below wr.heap.size wr w') => sameRow_c (w := w') (hn.below hw) (hn2.below hw))
      rw [ht1] at CE
      obtain ⟨⟨z, ⟨i1, ⟨s1, x1, n1, c1, f1, y1, m1, d1, g1⟩⟩, ⟨i2, ⟨s2, x2, n2, c2, f2, y2, m2, d2, g2⟩⟩, ta, tk, tc, tcol, tt⟩, hCi⟩ : ∃ t, X i = t := ⟨_, rfl⟩
      obtain ⟨⟨vz, ⟨vi1, ⟨vs1, vx1, vn1, vc1, vf1, vy1, vm1, vd1, vg1⟩⟩, ⟨vi2, ⟨vs2, vx2, vn2, vc2, vf2, vy2, vm2, vd2, vg2⟩⟩, vta, vtk, vtc, vtcol, vtt⟩, hCi2⟩ : ∃ t, Y i = t := ⟨_, rfl⟩
      rw [hCi] at hc CE
      rw [hCi2] at hc2 CE
      replace CE : Hid (∀ w' (hw : Below wr.heap.size wr w'), Calls Tryz.prog 63 #[.agg #[.string z, .int .i64 i1, .bool s1, .slice x1 n1 c1, .slice y1 m1 d1, .int .i64 i2, .bool s2, .slice x2 n2 c2, .slice y2 m2 d2, .slice ta tk tc], .agg #[.string vz, .int .i64 vi1, .bool vs1, .slice vx1 vn1 vc1, .slice vy1 vm1 vd1, .int .i64 vi2, .bool vs2, .slice vx2 vn2 vc2, .slice vy2 vm2 vd2, .slice vta vtk vtc]] w' fun e w2 => e = .returned (.bool t1) ∧ Below w'.heap.size w' w2) := CE
      have hb1 := below_alloc (Below.refl wr.heap.size wr) (.cells #[.string z, .int .i64 i1, .bool s1, .slice x1 n1 c1, .slice y1 m1 d1, .int .i64 i2, .bool s2, .slice x2 n2 c2, .slice y2 m2 d2, .slice ta tk tc] 75)
      have q0 : wr.cell? ⟨b, o + i * 10, none⟩ = some (.string z) := hc 0 _ rfl
      have q1 : wr.cell? ⟨b, o + i * 10 + 1, none⟩ = some (.int .i64 i1) := hc 1 _ rfl
      have q2 : wr.cell? ⟨b, o + i * 10 + 2, none⟩ = some (.bool s1) := hc 2 _ rfl
      have q3 : wr.cell? ⟨b, o + i * 10 + 3, none⟩ = some (.slice x1 n1 c1) := hc 3 _ rfl
      have q4 : wr.cell? ⟨b, o + i * 10 + 4, none⟩ = some (.slice y1 m1 d1) := hc 4 _ rfl
      have q5 : wr.cell? ⟨b, o + i * 10 + 5, none⟩ = some (.int .i64 i2) := hc 5 _ rfl
      have q6 : wr.cell? ⟨b, o + i * 10 + 6, none⟩ = some (.bool s2) := hc 6 _ rfl
      have q7 : wr.cell? ⟨b, o + i * 10 + 7, none⟩ = some (.slice x2 n2 c2) := hc 7 _ rfl
      have q8 : wr.cell? ⟨b, o + i * 10 + 8, none⟩ = some (.slice y2 m2 d2) := hc 8 _ rfl
      have q9 : wr.cell? ⟨b, o + i * 10 + 9, none⟩ = some (.slice ta tk tc) := hc 9 _ rfl
      have g0' : (wr.alloc (.cells #[.string z, .int .i64 i1, .bool s1, .slice x1 n1 c1, .slice y1 m1 d1, .int .i64 i2, .bool s2, .slice x2 n2 c2, .slice y2 m2 d2, .slice ta tk tc] 75)).cell? ⟨b2, o2 + i * 10, none⟩ = some (.string vz) := kCb hb1 (hc2 0 _ rfl)
      have g1' : (wr.alloc (.cells #[.string z, .int .i64 i1, .bool s1, .slice x1 n1 c1, .slice y1 m1 d1, .int .i64 i2, .bool s2, .slice x2 n2 c2, .slice y2 m2 d2, .slice ta tk tc] 75)).cell? ⟨b2, o2 + i * 10 + 1, none⟩ = some (.int .i64 vi1) := kCb hb1 (hc2 1 _ rfl)
      have g2' : (wr.alloc (.cells #[.string z, .int .i64 i1, .bool s1, .slice x1 n1 c1, .slice y1 m1 d1, .int .i64 i2, .bool s2, .slice x2 n2 c2, .slice y2 m2 d2, .slice ta tk tc] 75)).cell? ⟨b2, o2 + i * 10 + 2, none⟩ = some (.bool vs1) := kCb hb1 (hc2 2 _ rfl)
      have g3' : (wr.alloc (.cells #[.string z, .int .i64 i1, .bool s1, .slice x1 n1 c1, .slice y1 m1 d1, .int .i64 i2, .bool s2, .slice x2 n2 c2, .slice y2 m2 d2, .slice ta tk tc] 75)).cell? ⟨b2, o2 + i * 10 + 3, none⟩ = some (.slice vx1 vn1 vc1) := kCb hb1 (hc2 3 _ rfl)
      have g4' : (wr.alloc (.cells #[.string z, .int .i64 i1, .bool s1, .slice x1 n1 c1, .slice y1 m1 d1, .int .i64 i2, .bool s2, .slice x2 n2 c2, .slice y2 m2 d2, .slice ta tk tc] 75)).cell? ⟨b2, o2 + i * 10 + 4, none⟩ = some (.slice vy1 vm1 vd1) := kCb hb1 (hc2 4 _ rfl)
      have g5' : (wr.alloc (.cells #[.string z, .int .i64 i1, .bool s1, .slice x1 n1 c1, .slice y1 m1 d1, .int .i64 i2, .bool s2, .slice x2 n2 c2, .slice y2 m2 d2, .slice ta tk tc] 75)).cell? ⟨b2, o2 + i * 10 + 5, none⟩ = some (.int .i64 vi2) := kCb hb1 (hc2 5 _ rfl)
      have g6' : (wr.alloc (.cells #[.string z, .int .i64 i1, .bool s1, .slice x1 n1 c1, .slice y1 m1 d1, .int .i64 i2, .bool s2, .slice x2 n2 c2, .slice y2 m2 d2, .slice ta tk tc] 75)).cell? ⟨b2, o2 + i * 10 + 6, none⟩ = some (.bool vs2) := kCb hb1 (hc2 6 _ rfl)
      have g7' : (wr.alloc (.cells #[.string z, .int .i64 i1, .bool s1, .slice x1 n1 c1, .slice y1 m1 d1, .int .i64 i2, .bool s2, .slice x2 n2 c2, .slice y2 m2 d2, .slice ta tk tc] 75)).cell? ⟨b2, o2 + i * 10 + 7, none⟩ = some (.slice vx2 vn2 vc2) := kCb hb1 (hc2 7 _ rfl)
      have g8' : (wr.alloc (.cells #[.string z, .int .i64 i1, .bool s1, .slice x1 n1 c1, .slice y1 m1 d1, .int .i64 i2, .bool s2, .slice x2 n2 c2, .slice y2 m2 d2, .slice ta tk tc] 75)).cell? ⟨b2, o2 + i * 10 + 8, none⟩ = some (.slice vy2 vm2 vd2) := kCb hb1 (hc2 8 _ rfl)
      have g9' : (wr.alloc (.cells #[.string z, .int .i64 i1, .bool s1, .slice x1 n1 c1, .slice y1 m1 d1, .int .i64 i2, .bool s2, .slice x2 n2 c2, .slice y2 m2 d2, .slice ta tk tc] 75)).cell? ⟨b2, o2 + i * 10 + 9, none⟩ = some (.slice vta vtk vtc) := kCb hb1 (hc2 9 _ rfl)
      have p0 : ((wr.alloc (.cells #[.string z, .int .i64 i1, .bool s1, .slice x1 n1 c1, .slice y1 m1 d1, .int .i64 i2, .bool s2, .slice x2 n2 c2, .slice y2 m2 d2, .slice ta tk tc] 75)).alloc (.cells #[.string vz, .int .i64 vi1, .bool vs1, .slice vx1 vn1 vc1, .slice vy1 vm1 vd1, .int .i64 vi2, .bool vs2, .slice vx2 vn2 vc2, .slice vy2 vm2 vd2, .slice vta vtk vtc] 75)).cell? ⟨wr.heap.size, 0, none⟩ = some (.string z) := by simp [go_sem]
      have p1 : ((wr.alloc (.cells #[.string z, .int .i64 i1, .bool s1, .slice x1 n1 c1, .slice y1 m1 d1, .int .i64 i2, .bool s2, .slice x2 n2 c2, .slice y2 m2 d2, .slice ta tk tc] 75)).alloc (.cells #[.string vz, .int .i64 vi1, .bool vs1, .slice vx1 vn1 vc1, .slice vy1 vm1 vd1, .int .i64 vi2, .bool vs2, .slice vx2 vn2 vc2, .slice vy2 vm2 vd2, .slice vta vtk vtc] 75)).cell? ⟨wr.heap.size, 1, none⟩ = some (.int .i64 i1) := by simp [go_sem]
      have p2 : ((wr.alloc (.cells #[.string z, .int .i64 i1, .bool s1, .slice x1 n1 c1, .slice y1 m1 d1, .int .i64 i2, .bool s2, .slice x2 n2 c2, .slice y2 m2 d2, .slice ta tk tc] 75)).alloc (.cells #[.string vz, .int .i64 vi1, .bool vs1, .slice vx1 vn1 vc1, .slice vy1 vm1 vd1, .int .i64 vi2, .bool vs2, .slice vx2 vn2 vc2, .slice vy2 vm2 vd2, .slice vta vtk vtc] 75)).cell? ⟨wr.heap.size, 2, none⟩ = some (.bool s1) := by simp [go_sem]
      have p3 : ((wr.alloc (.cells #[.string z, .int .i64 i1, .bool s1, .slice x1 n1 c1, .slice y1 m1 d1, .int .i64 i2, .bool s2, .slice x2 n2 c2, .slice y2 m2 d2, .slice ta tk tc] 75)).alloc (.cells #[.string vz, .int .i64 vi1, .bool vs1, .slice vx1 vn1 vc1, .slice vy1 vm1 vd1, .int .i64 vi2, .bool vs2, .slice vx2 vn2 vc2, .slice vy2 vm2 vd2, .slice vta vtk vtc] 75)).cell? ⟨wr.heap.size, 3, none⟩ = some (.slice x1 n1 c1) := by simp [go_sem]
      have p4 : ((wr.alloc (.cells #[.string z, .int .i64 i1, .bool s1, .slice x1 n1 c1, .slice y1 m1 d1, .int .i64 i2, .bool s2, .slice x2 n2 c2, .slice y2 m2 d2, .slice ta tk tc] 75)).alloc (.cells #[.string vz, .int .i64 vi1, .bool vs1, .slice vx1 vn1 vc1, .slice vy1 vm1 vd1, .int .i64 vi2, .bool vs2, .slice vx2 vn2 vc2, .slice vy2 vm2 vd2, .slice vta vtk vtc] 75)).cell? ⟨wr.heap.size, 4, none⟩ = some (.slice y1 m1 d1) := by simp [go_sem]
      have p5 : ((wr.alloc (.cells #[.string z, .int .i64 i1, .bool s1, .slice x1 n1 c1, .slice y1 m1 d1, .int .i64 i2, .bool s2, .slice x2 n2 c2, .slice y2 m2 d2, .slice ta tk tc] 75)).alloc (.cells #[.string vz, .int .i64 vi1, .bool vs1, .slice vx1 vn1 vc1, .slice vy1 vm1 vd1, .int .i64 vi2, .bool vs2, .slice vx2 vn2 vc2, .slice vy2 vm2 vd2, .slice vta vtk vtc] 75)).cell? ⟨wr.heap.size, 5, none⟩ = some (.int .i64 i2) := by simp [go_sem]
      have p6 : ((wr.alloc (.cells #[.string z, .int .i64 i1, .bool s1, .slice x1 n1 c1, .slice y1 m1 d1, .int .i64 i2, .bool s2, .slice x2 n2 c2, .slice y2 m2 d2, .slice ta tk tc] 75)).alloc (.cells #[.string vz, .int .i64 vi1, .bool vs1, .slice vx1 vn1 vc1, .slice vy1 vm1 vd1, .int .i64 vi2, .bool vs2, .slice vx2 vn2 vc2, .slice vy2 vm2 vd2, .slice vta vtk vtc] 75)).cell? ⟨wr.heap.size, 6, none⟩ = some (.bool s2) := by simp [go_sem]
      have p7 : ((wr.alloc (.cells #[.string z, .int .i64 i1, .bool s1, .slice x1 n1 c1, .slice y1 m1 d1, .int .i64 i2, .bool s2, .slice x2 n2 c2, .slice y2 m2 d2, .slice ta tk tc] 75)).alloc (.cells #[.string vz, .int .i64 vi1, .bool vs1, .slice vx1 vn1 vc1, .slice vy1 vm1 vd1, .int .i64 vi2, .bool vs2, .slice vx2 vn2 vc2, .slice vy2 vm2 vd2, .slice vta vtk vtc] 75)).cell? ⟨wr.heap.size, 7, none⟩ = some (.slice x2 n2 c2) := by simp [go_sem]
      have p8 : ((wr.alloc (.cells #[.string z, .int .i64 i1, .bool s1, .slice x1 n1 c1, .slice y1 m1 d1, .int .i64 i2, .bool s2, .slice x2 n2 c2, .slice y2 m2 d2, .slice ta tk tc] 75)).alloc (.cells #[.string vz, .int .i64 vi1, .bool vs1, .slice vx1 vn1 vc1, .slice vy1 vm1 vd1, .int .i64 vi2, .bool vs2, .slice vx2 vn2 vc2, .slice vy2 vm2 vd2, .slice vta vtk vtc] 75)).cell? ⟨wr.heap.size, 8, none⟩ = some (.slice y2 m2 d2) := by simp [go_sem]
      have p9 : ((wr.alloc (.cells #[.string z, .int .i64 i1, .bool s1, .slice x1 n1 c1, .slice y1 m1 d1, .int .i64 i2, .bool s2, .slice x2 n2 c2, .slice y2 m2 d2, .slice ta tk tc] 75)).alloc (.cells #[.string vz, .int .i64 vi1, .bool vs1, .slice vx1 vn1 vc1, .slice vy1 vm1 vd1, .int .i64 vi2, .bool vs2, .slice vx2 vn2 vc2, .slice vy2 vm2 vd2, .slice vta vtk vtc] 75)).cell? ⟨wr.heap.size, 9, none⟩ = some (.slice ta tk tc) := by simp [go_sem]
      have r0 : ((wr.alloc (.cells #[.string z, .int .i64 i1, .bool s1, .slice x1 n1 c1, .slice y1 m1 d1, .int .i64 i2, .bool s2, .slice x2 n2 c2, .slice y2 m2 d2, .slice ta tk tc] 75)).alloc (.cells #[.string vz, .int .i64 vi1, .bool vs1, .slice vx1 vn1 vc1, .slice vy1 vm1 vd1, .int .i64 vi2, .bool vs2, .slice vx2 vn2 vc2, .slice vy2 vm2 vd2, .slice vta vtk vtc] 75)).cell? ⟨wr.heap.size + 1, 0, none⟩ = some (.string vz) := by simp [go_sem]
      have r1 : ((wr.alloc (.cells #[.string z, .int .i64 i1, .bool s1, .slice x1 n1 c1, .slice y1 m1 d1, .int .i64 i2, .bool s2, .slice x2 n2 c2, .slice y2 m2 d2, .slice ta tk tc] 75)).alloc (.cells #[.string vz, .int .i64 vi1, .bool vs1, .slice vx1 vn1 vc1, .slice vy1 vm1 vd1, .int .i64 vi2, .bool vs2, .slice vx2 vn2 vc2, .slice vy2 vm2 vd2, .slice vta vtk vtc] 75)).cell? ⟨wr.heap.size + 1, 1, none⟩ = some (.int .i64 vi1) := by simp [go_sem]
      have r2 : ((wr.alloc (.cells #[.string z, .int .i64 i1, .bool s1, .slice x1 n1 c1, .slice y1 m1 d1, .int .i64 i2, .bool s2, .slice x2 n2 c2, .slice y2 m2 d2, .slice ta tk tc] 75)).alloc (.cells #[.string vz, .int .i64 vi1, .bool vs1, .slice vx1 vn1 vc1, .slice vy1 vm1 vd1, .int .i64 vi2, .bool vs2, .slice vx2 vn2 vc2, .slice vy2 vm2 vd2, .slice vta vtk vtc] 75)).cell? ⟨wr.heap.size + 1, 2, none⟩ = some (.bool vs1) := by simp [go_sem]
      have r3 : ((wr.alloc (.cells #[.string z, .int .i64 i1, .bool s1, .slice x1 n1 c1, .slice y1 m1 d1, .int .i64 i2, .bool s2, .slice x2 n2 c2, .slice y2 m2 d2, .slice ta tk tc] 75)).alloc (.cells #[.string vz, .int .i64 vi1, .bool vs1, .slice vx1 vn1 vc1, .slice vy1 vm1 vd1, .int .i64 vi2, .bool vs2, .slice vx2 vn2 vc2, .slice vy2 vm2 vd2, .slice vta vtk vtc] 75)).cell? ⟨wr.heap.size + 1, 3, none⟩ = some (.slice vx1 vn1 vc1) := by simp [go_sem]
      have r4 : ((wr.alloc (.cells #[.string z, .int .i64 i1, .bool s1, .slice x1 n1 c1, .slice y1 m1 d1, .int .i64 i2, .bool s2, .slice x2 n2 c2, .slice y2 m2 d2, .slice ta tk tc] 75)).alloc (.cells #[.string vz, .int .i64 vi1, .bool vs1, .slice vx1 vn1 vc1, .slice vy1 vm1 vd1, .int .i64 vi2, .bool vs2, .slice vx2 vn2 vc2, .slice vy2 vm2 vd2, .slice vta vtk vtc] 75)).cell? ⟨wr.heap.size + 1, 4, none⟩ = some (.slice vy1 vm1 vd1) := by simp [go_sem]
      have r5 : ((wr.alloc (.cells #[.string z, .int .i64 i1, .bool s1, .slice x1 n1 c1, .slice y1 m1 d1, .int .i64 i2, .bool s2, .slice x2 n2 c2, .slice y2 m2 d2, .slice ta tk tc] 75)).alloc (.cells #[.string vz, .int .i64 vi1, .bool vs1, .slice vx1 vn1 vc1, .slice vy1 vm1 vd1, .int .i64 vi2, .bool vs2, .slice vx2 vn2 vc2, .slice vy2 vm2 vd2, .slice vta vtk vtc] 75)).cell? ⟨wr.heap.size + 1, 5, none⟩ = some (.int .i64 vi2) := by simp [go_sem]
      have r6 : ((wr.alloc (.cells #[.string z, .int .i64 i1, .bool s1, .slice x1 n1 c1, .slice y1 m1 d1, .int .i64 i2, .bool s2, .slice x2 n2 c2, .slice y2 m2 d2, .slice ta tk tc] 75)).alloc (.cells #[.string vz, .int .i64 vi1, .bool vs1, .slice vx1 vn1 vc1, .slice vy1 vm1 vd1, .int .i64 vi2, .bool vs2, .slice vx2 vn2 vc2, .slice vy2 vm2 vd2, .slice vta vtk vtc] 75)).cell? ⟨wr.heap.size + 1, 6, none⟩ = some (.bool vs2) := by simp [go_sem]
      have r7 : ((wr.alloc (.cells #[.string z, .int .i64 i1, .bool s1, .slice x1 n1 c1, .slice y1 m1 d1, .int .i64 i2, .bool s2, .slice x2 n2 c2, .slice y2 m2 d2, .slice ta tk tc] 75)).alloc (.cells #[.string vz, .int .i64 vi1, .bool vs1, .slice vx1 vn1 vc1, .slice vy1 vm1 vd1, .int .i64 vi2, .bool vs2, .slice vx2 vn2 vc2, .slice vy2 vm2 vd2, .slice vta vtk vtc] 75)).cell? ⟨wr.heap.size + 1, 7, none⟩ = some (.slice vx2 vn2 vc2) := by simp [go_sem]
      have r8 : ((wr.alloc (.cells #[.string z, .int .i64 i1, .bool s1, .slice x1 n1 c1, .slice y1 m1 d1, .int .i64 i2, .bool s2, .slice x2 n2 c2, .slice y2 m2 d2, .slice ta tk tc] 75)).alloc (.cells #[.string vz, .int .i64 vi1, .bool vs1, .slice vx1 vn1 vc1, .slice vy1 vm1 vd1, .int .i64 vi2, .bool vs2, .slice vx2 vn2 vc2, .slice vy2 vm2 vd2, .slice vta vtk vtc] 75)).cell? ⟨wr.heap.size + 1, 8, none⟩ = some (.slice vy2 vm2 vd2) := by simp [go_sem]
      have r9 : ((wr.alloc (.cells #[.string z, .int .i64 i1, .bool s1, .slice x1 n1 c1, .slice y1 m1 d1, .int .i64 i2, .bool s2, .slice x2 n2 c2, .slice y2 m2 d2, .slice ta tk tc] 75)).alloc (.cells #[.string vz, .int .i64 vi1, .bool vs1, .slice vx1 vn1 vc1, .slice vy1 vm1 vd1, .int .i64 vi2, .bool vs2, .slice vx2 vn2 vc2, .slice vy2 vm2 vd2, .slice vta vtk vtc] 75)).cell? ⟨wr.heap.size + 1, 9, none⟩ = some (.slice vta vtk vtc) := by simp [go_sem]
      have HB6 := hid (below_alloc hb1 (.cells #[.string vz, .int .i64 vi1, .bool vs1, .slice vx1 vn1 vc1, .slice vy1 vm1 vd1, .int .i64 vi2, .bool vs2, .slice vx2 vn2 vc2, .slice vy2 vm2 vd2, .slice vta vtk vtc] 75))
      have HT := hid hT; have HR := hid hr2
      have i1' : ((i : Nat) : Int) < ((k : Nat) : Int) := by omega
      clear hT hr2 hr hCi hCi2 ht1 hc hc2 hn hn2 hb1
      go_upto_region 7 with fail
      clear q0 g0' q1 g1' q2 g2' q3 g3' q4 g4' q5 g5' q6 g6' q7 g7' q8 g8' q9 g9'
      generalize ((wr.alloc (.cells #[.string z, .int .i64 i1, .bool s1, .slice x1 n1 c1, .slice y1 m1 d1, .int .i64 i2, .bool s2, .slice x2 n2 c2, .slice y2 m2 d2, .slice ta tk tc] 75)).alloc (.cells #[.string vz, .int .i64 vi1, .bool vs1, .slice vx1 vn1 vc1, .slice vy1 vm1 vd1, .int .i64 vi2, .bool vs2, .slice vx2 vn2 vc2, .slice vy2 vm2 vd2, .slice vta vtk vtc] 75)) = w6 at *
      go_wp2_with fail
      refine (CE.out _ HB6.out).mono ?_
      rintro e w7 ⟨rfl, hb7⟩
      have HB7 := hid (HB.out.trans ((HB6.out.trans (hb7.mono HB6.out.size)).mono HB.out.size))
      clear hb7 HB6 CE p0 r0 p1 r1 p2 r2 p3 r3 p4 r4 p5 r5 p6 r6 p7 r7 p8 r8 p9 r9
      cases t1
      · go_wp2
        go_ret
        refine ⟨?_, HB7.out⟩
        rw [HT.out]; rfl
      · go_wp2
        go_roundw
        case rel =>
          refine ⟨i + 1, by omega, by go_num, HB7.out, ?_⟩
          show _ = _
          rw [HT.out, HR.out]; rfl
        case measure => simp [intOf]; omega
    · have e1 : i = k := by omega
      have HE : Hid (eqfB srB k k X Y = true) := by show _ = _; rw [HI.out, e1, Nat.sub_self]; rfl
      have i2 : ¬ (((i : Nat) : Int) < ((k : Nat) : Int)) := by omega
      clear e1 HI
      go_wp2
      go_ret
      refine ⟨?_, HB.out⟩
      rw [HE.out]; rfl
end Go.Proofs.YtgmllfcngnfpkaaGreat

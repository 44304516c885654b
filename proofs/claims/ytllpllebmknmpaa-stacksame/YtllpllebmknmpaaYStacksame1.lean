/-
  Walks of the document's reference for rat: Form. Walks of the document's reference for rat: From, Neg, Sign, Add. Walks of the document's reference for whole: Divide. Package vec's calls on lists in form, by their values; lists that are put together by their terms. append to a row of structs in a region that draws its order. No Go text is named here. Walks of the document's reference for rat: Twin; the same digits elsewhere. Walks of the reference's Twins, Forms and Froms of lists of numbers. The walk of stack.copied. The walks of stack.back without steps, of stack.copiedPoint, and of the reference's Twin of points and of certificates (written by makers/o3.py). The walks of stack's numbers, Primal, Lift, checkPoint and Dual, of a stack without steps (written by makers/o4.py). The reference's Same and Sames of lists with the same values. The walks of the reference's Same of points, of certificates and of bases that are alike; of the calls of a nil stack; of StackNone (written by makers/o6.py). Lists of numbers that are copies; the walk of law17's lists, and what it answers.
-/
import Derived.Test.YtllpllebmknmpaaZ0
import Derived.Test.YtllpllebmknmpaaZ1
import Derived.Test.YtllpllebmknmpaaZ2
import Derived.Test.YtllpllebmknmpaaZ3
import Derived.Test.YtllpllebmknmpaaZ4
import Derived.Test.YtllpllebmknmpaaYStacksame0
import Derived.Deep.RegionHeld3
import Derived.BigQuiet
namespace Go.Proofs.Ytllpllebmknmpaa
open Go.RowKit

theorem vf_one_iff {g : Nat → Int} {m : Nat} (hl : Lm g m) (hf : Fm g m) : vf g m = 1 ↔ m = 1 ∧ g 0 = 1 := by
  constructor
  · intro h
    have h1 : Lm (fun _ => (1 : Int)) 1 := fun j _ => ⟨show (0 : Int) ≤ 1 by decide, show (1 : Int) < 18446744073709551616 by decide⟩
    have h2 : vf (fun _ => (1 : Int)) 1 = 1 := by decide
    obtain ⟨e1, e2⟩ := vf_inj hl h1 hf (.inr (by decide)) (h.trans h2.symm)
    exact ⟨e1, e2 0 (by omega)⟩
  · rintro ⟨rfl, h⟩
    simp [vf, pw, h]
set_option maxRecDepth 100000 in
set_option maxHeartbeats 8000000 in
theorem qForm_c {w : World} {s : Bool} {x : Option Addr} {n c : Nat} {f : Nat → Int} {y : Option Addr} {m d : Nat} {g : Nat → Int} (h : Rw w x n c f y m d g) (hn : n ≤ 1000) (hm : m ≤ 1000) :
    Calls Try.prog 51 #[.agg #[.bool s, .slice x n c, .slice y m d]] w fun e w' => e = .returned (.bool (rfB s f n g m)) ∧ Below w.heap.size w w' := by
  obtain ⟨b, hb⟩ : ∃ b, rfB s f n g m = b := ⟨_, rfl⟩
  rw [hb]
  have H := hid h; have HB := hid hb
  have hw := below_alloc (Below.refl w.heap.size w) (.cells #[.bool s, .slice x n c, .slice y m d] 66)
  have hcx := bx3_new (Below.refl (w.alloc (.cells #[.bool s, .slice x n c, .slice y m d] 66)).heap.size _)
  clear h hb
  go_enter Try.func51, Try.ntmps51
  go_wp2_with fail
  generalize w.alloc (.cells #[.bool s, .slice x n c, .slice y m d] 66) = w1 at *
  have HW := hid hw; have BX := hid hcx
  clear hw hcx
  obtain ⟨z, x0, x1, x2⟩ := BX.out
  have c1 := rform_c x n c f w1 (by omega) (H.out.rx.below HW.out (Nat.le_refl _))
  cases h1 : fmB f n
  · have hbf : b = false := by rw [← HB.out]; simp [rfB, wfB, h1]
    subst hbf
    rw [h1] at c1
    refine c1.mono ?_
    rintro e w2 ⟨rfl, hw2⟩
    replace hw2 := hw2.symm
    subst hw2
    clear c1
    go_wp2
    go_ret
    exact ⟨rfl, HW.out⟩
  rw [h1] at c1
  refine c1.mono ?_
  rintro e w2 ⟨rfl, hw2⟩
  replace hw2 := hw2.symm
  subst hw2
  clear c1
  have F1 := hid h1
  clear h1
  have c2 := rform_c y m d g w1 (by omega) (H.out.ry.below HW.out (Nat.le_refl _))
  go_wp2_with fail
  cases h2 : fmB g m
  · have hbf : b = false := by rw [← HB.out]; simp [rfB, h2]
    subst hbf
    rw [h2] at c2
    refine c2.mono ?_
    rintro e w2 ⟨rfl, hw2⟩
    replace hw2 := hw2.symm
    subst hw2
    clear c2
    go_wp2
    go_ret
    exact ⟨rfl, HW.out⟩
  rw [h2] at c2
  refine c2.mono ?_
  rintro e w2 ⟨rfl, hw2⟩
  replace hw2 := hw2.symm
  subst hw2
  clear c2
  have F2 := hid h2
  clear h2
  by_cases hm0 : m = 0
  · subst hm0
    have hbf : b = false := by rw [← HB.out]; simp [rfB]
    subst hbf
    go_wp2
    go_ret
    exact ⟨rfl, HW.out⟩
  have hmd : ((m : Int) == 0) = false := by simp; omega
  by_cases hn0 : n = 0
  · subst hn0
    cases s
    · by_cases hm1 : m = 1
      · subst hm1
        have hry := H.out.ry.below HW.out (Nat.le_refl _)
        obtain ⟨bk, o, rfl⟩ := hry.at (by omega)
        have hcell := hry.cell (j := 0) (by omega)
        obtain ⟨t, ht⟩ : ∃ t, g 0 = t := ⟨_, rfl⟩
        rw [ht, Nat.add_zero] at hcell
        have hbf : b = (t == 1) := by
          rw [← HB.out, ← ht]
          have e := vf_one_iff H.out.ly (fm_of F2.out)
          have h0 := vf_nonneg H.out.ly
          have e1 : (vf g 1).toNat = 1 ↔ g 0 = 1 := by
            constructor
            · intro h; exact (e.1 (by omega)).2
            · intro h; have := e.2 ⟨rfl, h⟩; omega
          by_cases hg : g 0 = 1
          · simp [rfB, wfB, vf, hg, fmB, pw]
          · have hg' : ¬ ((vf g 1).toNat = 1) := fun h => hg (e1.1 h)
            have e3 : (vf f 0).toNat.gcd (vf g 1).toNat = (vf g 1).toNat := by simp [vf]
            simp [rfB, e3, hg', hg]
        have HBF := hid hbf
        clear ht hry hbf
        go_wp2
        go_ret
        exact ⟨by rw [HBF.out]; rfl, HW.out⟩
      · have hm1d : ((m : Int) == 1) = false := by simp; omega
        have hbf : b = false := by
          rw [← HB.out]
          have e := vf_one_iff H.out.ly (fm_of F2.out)
          have h0 := vf_nonneg H.out.ly
          have hg' : ¬ ((vf g m).toNat = 1) := fun h => hm1 (e.1 (by omega)).1
          have e3 : (vf f 0).toNat.gcd (vf g m).toNat = (vf g m).toNat := by simp [vf]
          simp [rfB, e3, hg']
        subst hbf
        go_wp2
        go_ret
        exact ⟨rfl, HW.out⟩
    · have hbf : b = false := by rw [← HB.out]; simp [rfB, wfB]
      subst hbf
      go_wp2
      go_ret
      exact ⟨rfl, HW.out⟩
  have hnd : ((n : Int) == 0) = false := by simp; omega
  have HBv : Hid (b = decide ((vf f n).toNat.gcd (vf g m).toNat = 1)) := by
    show b = _
    rw [← HB.out]
    have h3 : wfB s f n = true := (wfB_iff _ _ _).2 ⟨fm_of F1.out, fun _ => by omega⟩
    have h4 : decide (0 < m) = true := by simp; omega
    rw [show rfB s f n g m = (wfB s f n && (fmB g m && (decide (0 < m) && decide ((vf f n).toNat.gcd (vf g m).toNat = 1)))) from rfl, h3, F2.out, h4]
    simp
  have C1 : Hid (∀ W, Below w1.heap.size w1 W → Calls Try.prog 60 #[.slice x n c] W fun e w' => ∃ z k c d, e = .returned (.slice z k c) ∧ Below W.heap.size W w' ∧ Hid (k ≤ 2 * n ∧ Dn w' z k d (vf f n).toNat)) := fun W hW => fromD_c (by omega) ((H.out.below HW.out).below hW).rx H.out.lx
  have C2 : Hid (∀ W, Below w1.heap.size w1 W → Calls Try.prog 60 #[.slice y m d] W fun e w' => ∃ z k c d, e = .returned (.slice z k c) ∧ Below W.heap.size W w' ∧ Hid (k ≤ 2 * m ∧ Dn w' z k d (vf g m).toNat)) := fun W hW => fromD_c (by omega) ((H.out.below HW.out).below hW).ry H.out.ly
  have C3 : Hid (∀ (W : World) (z5 : Option Addr) (k5 c5 : Nat) (d5 : Nat → Int) (z6 : Option Addr) (k6 c6 : Nat) (d6 : Nat → Int), k5 ≤ 2 * n → k6 ≤ 2 * m → Dn W z5 k5 d5 (vf f n).toNat → Dn W z6 k6 d6 (vf g m).toNat → Calls Try.prog 59 #[.slice z5 k5 c5, .slice z6 k6 c6] W fun e w' => ∃ z k c' d, e = .returned (.slice z k c') ∧ Below W.heap.size W w' ∧ Hid (k ≤ k5 + k6 ∧ Dn w' z k d ((vf f n).toNat.gcd (vf g m).toNat))) := fun W z5 k5 c5 d5 z6 k6 c6 d6 h1 h2 h3 h4 => rgcd_c h3 h4 (by omega) (by omega)
  go_wp2_with fail
  go_region_held3 (fun w' => w'.cell? ⟨w.heap.size, 1, none⟩ = some (.slice x n c) ∧ w'.cell? ⟨w.heap.size, 2, none⟩ = some (.slice y m d))
    (refine ⟨?_, ?_⟩ <;> repeat (with_reducible first | assumption | refine kCd ?_ | refine kCb (by assumption) ?_))
    (first
      | (go_at_call 60; with_reducible refine (C1.out _ (by repeat (with_reducible first | assumption | exact Below.refl _ _ | refine Below.drew ?_ | refine kBb (by assumption) ?_))).mono ?_; rintro e v5 ⟨z5, k5, c5, d5, rfl, hb5, H5⟩)
      | (go_at_call 60; with_reducible refine (C2.out _ (by repeat (with_reducible first | assumption | exact Below.refl _ _ | refine Below.drew ?_ | refine kBb (by assumption) ?_))).mono ?_; rintro e v6 ⟨z6, k6, c6, d6, rfl, hb6, H6⟩)
      | (go_at_call 59; with_reducible refine (C3.out _ z5 k5 c5 d5 z6 k6 c6 d6 H5.out.1 H6.out.1 (by repeat (with_reducible first | exact H5.out.2 | refine Dn.drew ?_ | refine kDb (by assumption) ?_)) (by repeat (with_reducible first | exact H6.out.2 | refine Dn.drew ?_ | refine kDb (by assumption) ?_))).mono ?_; rintro e v7 ⟨z7, k7, c7, d7, rfl, hb7, H7⟩))
  all_goals
    have hb : Below w1.heap.size w1 v7 := (by repeat (with_reducible first | assumption | exact Below.refl _ _ | refine Below.drew ?_ | refine kBb (by assumption) ?_))
    have HBw := hid (HW.out.trans (hb.mono HW.out.size))
    have hone := H7.out.2.one_iff
    have hk7 := H7.out.1
    have hk5 := H5.out.1
    have hk6 := H6.out.1
    by_cases hk1 : k7 = 1
    · subst hk1
      have hr7 := H7.out.2.rd
      obtain ⟨bk, o, rfl⟩ := hr7.at (by omega)
      have hcell := hr7.cell (j := 0) (by omega)
      obtain ⟨t, ht⟩ : ∃ t, d7 0 = t := ⟨_, rfl⟩
      rw [ht, Nat.add_zero] at hcell
      rw [ht] at hone
      have hbf : b = (t == 1) := by
        rw [HBv.out]
        by_cases h1 : t = 1
        · simp [hone.2 ⟨rfl, h1⟩, h1]
        · have hx : ¬ ((vf f n).toNat.gcd (vf g m).toNat = 1) := fun h => h1 (hone.1 h).2
          simp [hx, h1]
      have HBF := hid hbf
      clear ht hr7 hbf hone hb
      go_wp2
      go_ret
      exact ⟨by rw [HBF.out]; rfl, HBw.out⟩
    · have hk1d : ((k7 : Int) == 1) = false := by simp; omega
      have hbf : b = false := by
        have hx : ¬ ((vf f n).toNat.gcd (vf g m).toNat = 1) := fun h => hk1 (hone.1 h).1
        rw [HBv.out]; simp [hx]
      subst hbf
      clear hone hb
      go_wp2
      go_ret
      exact ⟨rfl, HBw.out⟩
end Go.Proofs.Ytllpllebmknmpaa
namespace Go.Proofs.Ytllpllebmknmpaa
open Go.RowKit

theorem qbox1 {w : World} (a0 a1 a2 : Value) (t u : TypeId) :
    Bx3 ((w.alloc (.cells #[a0, a1, a2] t)).alloc (.cells #[.bool false, .slice none 0 0, .slice none 0 0] u)) w.heap.size a0 a1 a2 ∧ Ob ((w.alloc (.cells #[a0, a1, a2] t)).alloc (.cells #[.bool false, .slice none 0 0, .slice none 0 0] u)) (w.heap.size + 1) ∧ Below w.heap.size w ((w.alloc (.cells #[a0, a1, a2] t)).alloc (.cells #[.bool false, .slice none 0 0, .slice none 0 0] u)) := by
  have h3 := ob_new (w.alloc (.cells #[a0, a1, a2] t)) u
  rw [size_alloc1] at h3
  exact ⟨(bx3_at w a0 a1 a2 t).below (below_alloc (Below.refl _ _) _), h3, below_alloc (below_alloc (Below.refl w.heap.size w) _) _⟩

end Go.Proofs.Ytllpllebmknmpaa
namespace Go.Proofs.Ytllpllebmknmpaa
open Go.RowKit

/-- A box that holds a sign and a list, and may be written. -/
structure X2 (w : World) (B : Nat) (s : Bool) (x : Option Addr) (n c : Nat) : Prop where
  z : B < w.heap.size
  c0 : w.cell? ⟨B, 0, none⟩ = some (.bool s)
  c1 : w.cell? ⟨B, 1, none⟩ = some (.slice x n c)
  zf : ∀ o, w.frozen? ⟨B, o, none⟩ = false
theorem X2.below {w w' B s x n c} (h : X2 w B s x n c) (hb : Below w.heap.size w w') : X2 w' B s x n c := by
  obtain ⟨h1, h2⟩ := bcell hb
  exact ⟨Nat.lt_of_lt_of_le h.z hb.size, kCb hb h.c0, kCb hb h.c1, fun o => (h2 _ _ h.z).trans (h.zf o)⟩
/-- A number stored into such a box. -/
theorem X2.put {w B s x n c} (h : X2 w B s x n c) (r : Bool) (y : Option Addr) (m d : Nat) : X2 ((w.setCell ⟨B, 0, none⟩ (.bool r)).setCell ⟨B, 1, none⟩ (.slice y m d)) B r y m d :=
  ⟨by simpa [World.setCell] using h.z, kCo (by decide) (kCe (kI0 h.c0)), kCe (kIs (kI0 h.c1)), fun o => kFs (kFs (h.zf o))⟩
theorem X2.dn {w B s x n c u0 u1 y m d V} (h : X2 w B s x n c) (hx : Dn w y m d V) : Dn ((w.setCell ⟨B, 0, none⟩ u0).setCell ⟨B, 1, none⟩ u1) y m d V :=
  ⟨rd_setne (cell_off (by decide) h.c1) (fun i h => by cases h) (rd_setne h.c0 (fun i h => by cases h) hx.rd), hx.dg, hx.fm, hx.val⟩
theorem X2.zn {w B s x n c u0 u1 t y m d v} (h : X2 w B s x n c) (hx : Zn w t y m d v) : Zn ((w.setCell ⟨B, 0, none⟩ u0).setCell ⟨B, 1, none⟩ u1) t y m d v := ⟨h.dn hx.dn, hx.sgn, hx.pos⟩
theorem X2.drew {w B s x n c} (h : X2 w B s x n c) : X2 w.drew B s x n c := ⟨h.z, h.c0, h.c1, h.zf⟩
end Go.Proofs.Ytllpllebmknmpaa
namespace Go.Proofs.Ytllpllebmknmpaa
open Go.RowKit

theorem Rf.mono {L L' w ao p} (h : Rf L w ao p) (hL : L ≤ L') : Rf L' w ao p := fun j q hj => by
  obtain ⟨b, o, t, e, h1, h2⟩ := h j q hj
  exact ⟨b, o, t, e, h1, h2.mono hL⟩

/-- The cells of numbers. -/
def rcell (t : Nm) : List Value := [.bool t.s, .slice t.x t.n t.c, .slice t.y t.m t.d]
def rcells (l : List Nm) : List Value := l.flatMap rcell
theorem rcells_get {l : List Nm} {j : Nat} {t : Nm} (h : l[j]? = some t) (i : Nat) (hi : i < 3) : (rcells l)[j * 3 + i]? = (rcell t)[i]? := by
  induction l generalizing j with
  | nil => simp at h
  | cons u l ih =>
    have e : rcells (u :: l) = rcell u ++ rcells l := by simp [rcells]
    rw [e]
    cases j with
    | zero =>
      simp at h; subst h
      rw [Nat.zero_mul, Nat.zero_add, List.getElem?_append_left (by show i < 3; exact hi)]
    | succ j =>
      rw [List.getElem?_append_right (by show 3 ≤ _; omega), show (j + 1) * 3 + i - (rcell u).length = j * 3 + i by show (j + 1) * 3 + i - 3 = _; omega]
      exact ih (by simpa using h)
end Go.Proofs.Ytllpllebmknmpaa
namespace Go.Proofs.Ytllpllebmknmpaa
open Go.RowKit

/-- The same outside such a region. -/
theorem wpList_append_one {P : Program} (w0 : World) {ops : Array Oper} {rest : List Oper} {o : Oper} {a : Act} {Q : Exit → Act → World → Prop} (hgd : o.guard = none) (s x : Operand) (t : TypeId)
    (ho : o.op = .call { callee := .builtin .append, args := #[s, x], argTypes := #[t, t] })
    (base : Nat) (e : TypeId) (bytes sz : Nat) (z : Value) (ht : P.underlying t = some (.slice e)) (hi : (P.info? e).map (fun i => (i.zero, i.size, i.bytes)) = some (some z, sz, bytes)) (hzs : z.cells.size = sz) (hsz : 0 < sz) (hzu : NoU z.cells)
    (v : Value) (n : Nat) (xs : List Value) (hs : a.eval s = v) (hown : RowG e sz base w0 v n xs) (c : Array Value) (hx : a.eval x = .slice (some ⟨w0.heap.size, 0, none⟩) 1 1) (hc : c.size = sz) (h1 : ∀ u ∈ c.toList, u.oneCell' = true) (hnu : ∀ u ∈ c.toList, ∀ q, u ≠ .int .u64 q) (hn : n ≤ 1000000) (hby : bytes ≤ 1000) (hbase : base ≤ w0.heap.size)
    (hK : ∀ g cap' w', RowG e sz base w' (.slice (some ⟨g, 0, none⟩) (n + 1) cap') (n + 1) (xs ++ c.toList) → Kp w0 w' → (∀ b0 : World, Below b0.heap.size b0 w0 → b0.heap.size ≤ base → Below b0.heap.size b0 w') → (∀ k, k < w0.heap.size → v.ownBlock ≠ some k → w'.heap[k]? = w0.heap[k]?) → wpList P ops Q rest (a.put o.dst (.slice (some ⟨g, 0, none⟩) (n + 1) cap')) w') : wpList P ops Q (o :: rest) a (w0.alloc (.cells c e)) := by
  obtain ⟨i, hi, hz0, hz1, hz2⟩ := info_parts hi
  have hal := below_alloc (Below.refl w0.heap.size w0) (.cells c e)
  have hblk := heap_alloc_new w0 (.cells c e)
  have hrow := hown.below hal
  refine wpList_append_G (w0.alloc (.cells c e)) hgd s x t ho base e i z sz bytes ht hi hz0 hz1 hz2 hzs hsz hzu v n xs hs hrow ⟨w0.heap.size, 0, none⟩ 1 1 c.toList hx (by simp [hc]) (fun j u hu => ?_) h1 hnu (by decide) (by unfold maxLen; omega) ?_ (by simp; omega) ?_
  · rw [addr_add, Nat.zero_add]
    simp only [World.cell?, hblk]
    simpa using hu
  · have : (n + 1) * bytes ≤ 1000001 * 1000 := Nat.mul_le_mul (by omega) hby
    omega
  · intro g cap' w' hr hgr hkp
    refine hK g cap' w' hr ((Kp.of_below hal).trans hkp) (fun b0 hb hle => ?_) (fun k hk hne => (hgr.block k (by simp; omega) (fun e => hne e.symm)).trans (hal.block k hk))
    have h2 : Below b0.heap.size b0 (w0.alloc (.cells c e)) := hb.trans (hal.mono hb.size)
    exact h2.grown hgr (by have := hb.size; simp; omega) (fun k hk => by have := (hrow.lt k hk).1; omega)
theorem one3 (s : Bool) (x : Option Addr) (n c : Nat) (y : Option Addr) (m d : Nat) : ∀ u ∈ (#[Value.bool s, .slice x n c, .slice y m d] : Array Value).toList, u.oneCell' = true := by
  intro u hu; simp at hu; rcases hu with rfl | rfl | rfl <;> rfl
theorem not3 (s : Bool) (x : Option Addr) (n c : Nat) (y : Option Addr) (m d : Nat) : ∀ u ∈ (#[Value.bool s, .slice x n c, .slice y m d] : Array Value).toList, ∀ q, u ≠ .int .u64 q := by
  intro u hu q; simp at hu; rcases hu with rfl | rfl | rfl <;> simp
theorem nz3 : NoU (Value.agg #[.bool false, .slice none 0 0, .slice none 0 0]).cells := nou_list (l := [Value.bool false, .slice none 0 0, .slice none 0 0]) (not3 false none 0 0 none 0 0)
theorem RowG.drew {e sz base w v n xs} (h : RowG e sz base w v n xs) : RowG e sz base w.drew v n xs := h
/-- The same of numbers. -/
def rls (i : Nat) (T : Nat → Nm) : List Nm := (List.range i).map T
theorem rls_put (i : Nat) (T : Nat → Nm) (t : Nm) : rcells (rls (i + 1) (putN T i t)) = rcells (rls i T) ++ rcell t := by
  have e : rls (i + 1) (putN T i t) = rls i T ++ [t] := by
    unfold rls
    rw [List.range_succ, List.map_append, List.map_singleton, putN_at]
    congr 1
    apply List.map_congr_left
    intro j hj
    rw [putN_ne (by have := List.mem_range.1 hj; omega)]
  rw [e]; simp [rcells]
theorem rls_get {i j : Nat} {T : Nat → Nm} (h : j < i) : (rls i T)[j]? = some (T j) := by simp [rls, h]
theorem rowg_c3 {e : TypeId} {base i : Nat} {w : World} {ao : Option Addr} {cap : Nat} {T : Nat → Nm} (h : RowG e 3 base w (.slice ao i cap) i (rcells (rls i T))) {j : Nat} (hj : j < i) : ∃ b, ao = some ⟨b, 0, none⟩ ∧ C3 w b (0 + j * 3) (.bool (T j).s) (.slice (T j).x (T j).n (T j).c) (.slice (T j).y (T j).m (T j).d) := by
  rcases h.2 with ⟨hv, h0⟩ | ⟨g, cap', cur, hv, _⟩
  · omega
  · cases hv
    have hc : ∀ q, q < 3 → w.cell? ⟨g, 0 + j * 3 + q, none⟩ = (rcell (T j))[q]? := fun q hq => by
      rw [Nat.zero_add]
      have e1 := rcells_get (rls_get (T := T) hj) q hq
      obtain ⟨u, hu⟩ : ∃ u, (rcell (T j))[q]? = some u := ⟨_, List.getElem?_eq_getElem (by show q < 3; exact hq)⟩
      rw [hu] at e1 ⊢
      exact h.cells e1
    exact ⟨g, rfl, ⟨hc 0 (by decide), hc 1 (by decide), hc 2 (by decide)⟩⟩
end Go.Proofs.Ytllpllebmknmpaa
namespace Go.Proofs.Ytllpllebmknmpaa
open Go.RowKit

theorem twinD_c {w : World} {x : Option Addr} {n c : Nat} {f : Nat → Int} (hr : Rd .u64 w x n f) (hn : n ≤ 17592186044416) (hnil : x = none → n = 0 ∧ c = 0) :
    Calls Try.prog 50 #[.slice x n c] w fun e w' => ∃ z c', e = .returned (.slice z n c') ∧ Below w.heap.size w w' ∧ Hid (Rd .u64 w' z n f ∧ (n ≤ c' ∧ c' ≤ 9223372036854775807) ∧ (z = none → n = 0 ∧ c' = 0)) := by
  refine (twin_c x n c f w (by omega) hr hnil).mono ?_
  rintro e w' ⟨z, c', rfl, h2, h3, h4⟩
  obtain ⟨ao, cap, hv, k1, k2, k3, _, _⟩ := h4.shape
  cases hv
  exact ⟨z, c', rfl, h2, h3, ⟨k1, by unfold maxLen at k3; omega⟩, fun h => by have := k2 h; omega⟩
theorem kRdb {w w' : World} {x : Option Addr} {n : Nat} {f : Nat → Int} (hb : Below w.heap.size w w') (h : Rd .u64 w x n f) : Rd .u64 w' x n f := h.below hb (Nat.le_refl _)
set_option maxRecDepth 100000 in
set_option maxHeartbeats 8000000 in
theorem qTwin_c {w : World} {s : Bool} {x : Option Addr} {n c : Nat} {f : Nat → Int} {y : Option Addr} {m d : Nat} {g : Nat → Int} (h : Rw w x n c f y m d g) (hn : n ≤ 17592186044416) (hm : m ≤ 17592186044416) :
    Calls Try.prog 33 #[.agg #[.bool s, .slice x n c, .slice y m d]] w fun e w' => ∃ z c' z2 c2, e = .returned (.agg #[.bool s, .slice z n c', .slice z2 m c2]) ∧ Below w.heap.size w w' ∧ Hid (Rw w' z n c' f z2 m c2 g) := by
  obtain ⟨h1, h2, h3⟩ := qbox1 (w := w) (.bool s) (.slice x n c) (.slice y m d) 66 66
  have h4 := h.below h3
  clear h
  go_enter Try.func33, Try.ntmps33
  go_wp2_with fail
  generalize (w.alloc (.cells #[.bool s, .slice x n c, .slice y m d] 66)).alloc (.cells #[.bool false, .slice none 0 0, .slice none 0 0] 66) = w1 at *
  have HN := hid h4; have OB := hid h2; have HW := hid h3
  obtain ⟨z, x0, x1, x2⟩ := h1
  obtain ⟨hz, z0, z1, z2, zf⟩ := h2
  clear h3 h4
  have C1 : Hid (∀ W, Below w1.heap.size w1 W → Calls Try.prog 50 #[.slice x n c] W fun e w' => ∃ z c', e = .returned (.slice z n c') ∧ Below W.heap.size W w' ∧ Hid (Rd .u64 w' z n f ∧ (n ≤ c' ∧ c' ≤ 9223372036854775807) ∧ (z = none → n = 0 ∧ c' = 0))) := fun W hW => twinD_c (HN.out.below hW).rx (by omega) HN.out.nx
  have C2 : Hid (∀ W, Below w1.heap.size w1 W → Calls Try.prog 50 #[.slice y m d] W fun e w' => ∃ z c', e = .returned (.slice z m c') ∧ Below W.heap.size W w' ∧ Hid (Rd .u64 w' z m g ∧ (m ≤ c' ∧ c' ≤ 9223372036854775807) ∧ (z = none → m = 0 ∧ c' = 0))) := fun W hW => twinD_c (HN.out.below hW).ry (by omega) HN.out.ny
  go_region_held3 (fun w' => w'.cell? ⟨w.heap.size, 0, none⟩ = some (.bool s) ∧ w'.cell? ⟨w.heap.size, 1, none⟩ = some (.slice x n c) ∧ w'.cell? ⟨w.heap.size, 2, none⟩ = some (.slice y m d) ∧ (w'.cell? ⟨w.heap.size + 1, 0, none⟩).isSome = true ∧ (w'.cell? ⟨w.heap.size + 1, 1, none⟩).isSome = true ∧ (w'.cell? ⟨w.heap.size + 1, 2, none⟩).isSome = true ∧ w'.frozen? ⟨w.heap.size + 1, 0, none⟩ = false ∧ w'.frozen? ⟨w.heap.size + 1, 1, none⟩ = false ∧ w'.frozen? ⟨w.heap.size + 1, 2, none⟩ = false)
    (refine ⟨?_, ?_, ?_, ?_, ?_, ?_, ?_, ?_, ?_⟩ <;> repeat (with_reducible first | assumption | exact zf _ | exact tf _ | exact uf _ | exact kI0 z0 | exact kI0 z1 | exact kI0 z2 | exact kI0 t0 | exact kI0 t1 | exact kI0 t2 | exact kI0 u0 | exact kI0 u1 | exact kI0 u2 | refine kCd ?_ | refine kId ?_ | refine kFd ?_ | refine kCs (by simp only [ne_eq]; omega) ?_ | refine kIs ?_ | refine kFs ?_ | refine kCb (by assumption) ?_ | refine kIb (by assumption) ?_))
    (first
      | (go_at_call 50; with_reducible refine (C1.out _ (by repeat (with_reducible first | assumption | exact Below.refl _ _ | refine Below.drew ?_ | refine kBb (by assumption) ?_))).mono ?_; rintro e v5 ⟨z5, c5, rfl, hb5, H5⟩; have Tt : Ob v5 (w.heap.size + 1) := (by repeat (with_reducible first | exact OB.out | exact Tt | exact Tu | refine Ob.drew ?_ | refine kOb (by assumption) ?_)); obtain ⟨_, t0, t1, t2, tf⟩ := id Tt)
      | (go_at_call 50; with_reducible refine (C2.out _ (by repeat (with_reducible first | assumption | exact Below.refl _ _ | refine Below.drew ?_ | refine kBb (by assumption) ?_))).mono ?_; rintro e v6 ⟨z6, c6, rfl, hb6, H6⟩; have Tu : Ob v6 (w.heap.size + 1) := (by repeat (with_reducible first | exact OB.out | exact Tt | exact Tu | refine Ob.drew ?_ | refine kOb (by assumption) ?_)); obtain ⟨_, u0, u1, u2, uf⟩ := id Tu))
  all_goals
    have D5 : Rd .u64 v6 z5 n f := (by repeat (with_reducible first | exact H5.out.1 | refine Rd.drew ?_ | refine kRdb (by assumption) ?_))
    have hb : Below w1.heap.size w1 v6 := (by repeat (with_reducible first | assumption | exact Below.refl _ _ | refine Below.drew ?_ | refine kBb (by assumption) ?_))
    go_wp2
    exact bodyPost_ret (v := .agg #[.bool s, .slice z5 n c5, .slice z6 m c6]) (by simp [results, Try.results33, go_sem, u0, u1, u2]) rfl ⟨z5, c5, z6, c6, rfl, below_st (HW.out.trans (hb.mono HW.out.size)) (by omega), Tu.rd D5, HN.out.lx, H5.out.2.1, H5.out.2.2, Tu.rd H6.out.1, HN.out.ly, H6.out.2.1, H6.out.2.2⟩

end Go.Proofs.Ytllpllebmknmpaa
namespace Go.Proofs.Ytllpllebmknmpaa
open Go.RowKit

theorem afr_sn {X X' : Nat → Nm} : ∀ {r i : Nat}, (∀ j, i ≤ j → j < i + r → Sn (X j) (X' j)) → afr X' r i = afr X r i := by
  intro r
  induction r with
  | zero => intro i _; rfl
  | succ r ih =>
    intro i h
    simp only [afr]
    rw [ih (fun j a b => h j (by omega) (by omega)), (h i (by omega) (by omega)).nfB]
/-- What Twins answers. -/
def TwsAns (w w' : World) (e : Ending) (k : Nat) (X : Nat → Nm) : Prop := ∃ aw cw X', e = .returned (.slice aw k cw) ∧ Below w.heap.size w w' ∧ (k ≤ cw ∧ cw ≤ 9223372036854775807) ∧ Hid (Rl w' aw k X' ∧ ∀ j, j < k → Sn (X j) (X' j))
set_option maxRecDepth 100000 in
set_option maxHeartbeats 4000000 in
theorem forms_c {w : World} {ao : Option Addr} {k cap : Nat} {X : Nat → Nm} (h : Rl w ao k X) (hk : k ≤ 10000) (hl : ∀ j, j < k → (X j).n ≤ 1000 ∧ (X j).m ≤ 1000) :
    Calls Try.prog 34 #[.slice ao k cap] w fun e w' => e = .returned (.bool (afB k X)) ∧ Below w.heap.size w w' := by
  have H := hid h
  clear h
  go_enter Try.func34, Try.ntmps34
  go_wp2_with fail
  go_loopw [7] (fun t wr => ∃ (i : Nat), i ≤ k ∧ t = .int .i64 i ∧ Hid (Below w.heap.size w wr) ∧ Hid (afB k X = afr X (k - i) i)) (fun t _ => k - (intOf t).toNat)
  case atStart => exact ⟨0, by omega, rfl, Below.refl _ _, rfl⟩
  case round =>
    obtain ⟨i, hi, rfl, HB, HT⟩ := hrel
    by_cases hlt : i < k
    · obtain ⟨b, o, rfl, hc, hn, hn1, hn2⟩ := (H.out.below HB.out) i hlt
      obtain ⟨r, hr⟩ : ∃ r, k - i = r + 1 := ⟨k - i - 1, by omega⟩
      have hT : afB k X = (nfB (X i) && afr X r (i + 1)) := by rw [HT.out, hr]; rfl
      have hr2 : k - (i + 1) = r := by omega
      obtain ⟨⟨s, x, n, c, f, y, m, d, g⟩, hTi⟩ : ∃ t, X i = t := ⟨_, rfl⟩
      rw [hTi] at hc hn hn1 hn2 hT
      obtain ⟨x0, x1, x2⟩ := hc
      replace x0 : wr.cell? ⟨b, o + i * 3, none⟩ = some (.bool s) := x0
      replace x1 : wr.cell? ⟨b, o + i * 3 + 1, none⟩ = some (.slice x n c) := x1
      replace x2 : wr.cell? ⟨b, o + i * 3 + 2, none⟩ = some (.slice y m d) := x2
      replace hn : Rw wr x n c f y m d g := hn
      replace hn1 : n ≤ 65536 := hn1
      replace hn2 : m ≤ 65536 := hn2
      have hblk : Below wr.heap.size wr (wr.alloc (.cells #[.bool s, .slice x n c, .slice y m d] 66)) := below_alloc (Below.refl _ _) _
      obtain ⟨hl1, hl2⟩ := hl i hlt
      rw [hTi] at hl1 hl2
      have CF := hid (qForm_c (s := s) (hn.below hblk) hl1 hl2)
      have HTi := hid hT; have HR2 := hid hr2
      have i1 : ((i : Nat) : Int) < ((k : Nat) : Int) := by omega
      clear hT hr2 hTi hr hn hblk hl1 hl2
      cases hf : rfB s f n g m
      · have CF2 := CF
        rw [hf] at CF2
        have HNF : Hid (nfB ⟨s, x, n, c, f, y, m, d, g⟩ = false) := hf
        clear CF hf
        go_wp2_with fail
        refine CF2.out.mono ?_
        rintro e w1 ⟨rfl, hb1⟩
        obtain ⟨_, _, _, _, hb2⟩ := box3 hb1
        go_wp2
        go_ret
        refine ⟨?_, HB.out.trans (hb2.mono HB.out.size)⟩
        rw [HTi.out, HNF.out]; rfl
      · have CF2 := CF
        rw [hf] at CF2
        have HNF : Hid (nfB ⟨s, x, n, c, f, y, m, d, g⟩ = true) := hf
        clear CF hf
        go_wp2_with fail
        refine CF2.out.mono ?_
        rintro e w1 ⟨rfl, hb1⟩
        obtain ⟨_, _, _, _, hb2⟩ := box3 hb1
        have HB2 := hid (HB.out.trans (hb2.mono HB.out.size))
        clear hb1 hb2
        go_wp2
        go_roundw
        case rel =>
          refine ⟨i + 1, by omega, by go_num, HB2.out, ?_⟩
          show _ = _
          rw [HTi.out, HNF.out, HR2.out]; rfl
        case measure => simp [intOf]; omega
    · have e1 : i = k := by omega
      have HTe : Hid (afB k X = true) := by
        show _ = _
        rw [HT.out, e1, Nat.sub_self]; rfl
      have i2 : ¬ (((i : Nat) : Int) < ((k : Nat) : Int)) := by omega
      clear e1 HT
      go_wp2
      go_ret
      refine ⟨?_, HB.out⟩
      rw [HTe.out]; rfl

set_option maxRecDepth 100000 in
set_option maxHeartbeats 4000000 in
theorem twins_c {w : World} {ao : Option Addr} {k cap : Nat} {X : Nat → Nm} (h : Rl w ao k X) (hk : k ≤ 10000) (hl : ∀ j, j < k → (X j).n ≤ 1000 ∧ (X j).m ≤ 1000) :
    Calls Try.prog 14 #[.slice ao k cap] w fun e w' => TwsAns w w' e k X := by
  have H := hid h
  clear h
  go_enter Try.func14, Try.ntmps14
  go_wp2_with fail
  go_loopw [3, 8] (fun ov t wr => ∃ (i : Nat) (T' : Nat → Nm), i ≤ k ∧ t = .int .i64 i ∧ Hid (Below w.heap.size w wr) ∧ Hid (RowG 66 3 w.heap.size wr ov i (rcells (rls i T'))) ∧ Hid (∀ j, j < i → Sn (X j) (T' j) ∧ Rw wr (T' j).x (T' j).n (T' j).c (T' j).f (T' j).y (T' j).m (T' j).d (T' j).g)) (fun _ t _ => k - (intOf t).toNat)
  case atStart => exact ⟨0, X, by omega, rfl, Below.refl _ _, rowG_nil _ _ _ _, fun j hj => by omega⟩
  case round =>
    obtain ⟨i, T', hi, rfl, HB, HRow, HT⟩ := hrel
    by_cases hlt : i < k
    · obtain ⟨b, o, hao, hc, hn, hn1, hn2⟩ := (H.out.below HB.out) i hlt
      subst hao
      obtain ⟨⟨s, x, n, c, f, y, m, d, g⟩, hTi⟩ : ∃ t, X i = t := ⟨_, rfl⟩
      rw [hTi] at hc hn
      obtain ⟨x0, x1, x2⟩ := hc
      replace x0 : wr.cell? ⟨b, o + i * 3, none⟩ = some (.bool s) := x0
      replace x1 : wr.cell? ⟨b, o + i * 3 + 1, none⟩ = some (.slice x n c) := x1
      replace x2 : wr.cell? ⟨b, o + i * 3 + 2, none⟩ = some (.slice y m d) := x2
      have i1 : ((i : Nat) : Int) < ((k : Nat) : Int) := by omega
      obtain ⟨hn10, hm10⟩ := hl i hlt
      rw [hTi] at hn10 hm10
      replace hn : Rw wr x n c f y m d g := hn
      have hb5 := below_alloc (Below.refl wr.heap.size wr) (.cells #[.bool s, .slice x n c, .slice y m d] 66)
      have HN := hid (hn.below hb5); have HTi := hid hTi; have HRow5 := hid (HRow.out.below hb5); have HB5 := hid (HB.out.trans (hb5.mono HB.out.size))
      have HT5 : Hid (∀ j, j < i → Sn (X j) (T' j) ∧ Rw (wr.alloc (.cells #[.bool s, .slice x n c, .slice y m d] 66)) (T' j).x (T' j).n (T' j).c (T' j).f (T' j).y (T' j).m (T' j).d (T' j).g) := fun j hj => ⟨(HT.out j hj).1, (HT.out j hj).2.below hb5⟩
      clear hn hTi hb5 hn1 hn2
      go_wp2_with fail
      clear x0 x1 x2 HB HRow HT
      generalize wr.alloc (.cells #[.bool s, .slice x n c, .slice y m d] 66) = w5 at *
      refine (qTwin_c (s := s) HN.out (Nat.le_trans hn10 (by decide)) (Nat.le_trans hm10 (by decide))).mono ?_
      rintro e w6 ⟨z6, c6, z7, c7, rfl, hb6, HQ⟩
      have HB6 := hid (HB5.out.trans (hb6.mono HB5.out.size)); have HRow6 := hid (HRow5.out.below hb6)
      have HT6 : Hid (∀ j, j < i → Sn (X j) (T' j) ∧ Rw w6 (T' j).x (T' j).n (T' j).c (T' j).f (T' j).y (T' j).m (T' j).d (T' j).g) := fun j hj => ⟨(HT5.out j hj).1, (HT5.out j hj).2.below hb6⟩
      have hsz := HB6.out.size
      clear hb6 HB5 HRow5 HT5 HN
      go_wp2_with (at_builtin; go_must (refine wpList_append_one w6 rfl (.tmp 12) (.tmp 15) 30 rfl w.heap.size 66 56 3 (.agg #[.bool false, .slice none 0 0, .slice none 0 0]) Try.underlying30 Try.infoRat rfl (by decide) nz3 u3 i (rcells (rls i T')) rfl HRow6.out #[.bool s, .slice z6 n c6, .slice z7 m c7] rfl rfl (one3 _ _ _ _ _ _ _) (not3 _ _ _ _ _ _ _) ?p1 (by decide) hsz ?_))
      case p1 => omega
      intro g8 cap8 w8 hr8 hk8 hb8 hg8
      have HB8 := hid (hb8 w HB6.out (Nat.le_refl _))
      have HR8 : Hid (RowG 66 3 w.heap.size w8 (.slice (some ⟨g8, 0, none⟩) (i + 1) cap8) (i + 1) (rcells (rls (i + 1) (putN T' i ⟨s, z6, n, c6, f, z7, m, c7, g⟩)))) := by
        show RowG _ _ _ _ _ _ _
        rw [rls_put]; exact hr8
      have HT8 : Hid (∀ j, j < i + 1 → Sn (X j) (putN T' i ⟨s, z6, n, c6, f, z7, m, c7, g⟩ j) ∧ Rw w8 (putN T' i ⟨s, z6, n, c6, f, z7, m, c7, g⟩ j).x (putN T' i ⟨s, z6, n, c6, f, z7, m, c7, g⟩ j).n (putN T' i ⟨s, z6, n, c6, f, z7, m, c7, g⟩ j).c (putN T' i ⟨s, z6, n, c6, f, z7, m, c7, g⟩ j).f (putN T' i ⟨s, z6, n, c6, f, z7, m, c7, g⟩ j).y (putN T' i ⟨s, z6, n, c6, f, z7, m, c7, g⟩ j).m (putN T' i ⟨s, z6, n, c6, f, z7, m, c7, g⟩ j).d (putN T' i ⟨s, z6, n, c6, f, z7, m, c7, g⟩ j).g) := fun j hj => by
        by_cases e : j = i
        · subst e
          rw [putN_at]
          rw [HTi.out]
          exact ⟨⟨rfl, rfl, rfl, rfl, rfl⟩, Rw.kp HQ.out hk8⟩
        · rw [putN_ne e]
          exact ⟨(HT6.out j (by omega)).1, Rw.kp (HT6.out j (by omega)).2 hk8⟩
      clear hr8 hk8 hb8 hg8 HRow6 HT6 HB6 HQ hsz
      go_wp2
      go_roundw
      case rel => exact ⟨i + 1, _, by omega, by go_num, HB8.out, HR8.out, HT8.out⟩
      case measure => simp [intOf]; omega
    · have e1 : i = k := by omega
      have i1 : ¬ (((i : Nat) : Int) < ((k : Nat) : Int)) := by omega
      rw [e1] at HRow HT
      obtain ⟨aw, cw, rfl⟩ := HRow.out.slice
      have hcw : k ≤ cw ∧ cw ≤ 9223372036854775807 := by
        rcases HRow.out.2 with ⟨hv, h0⟩ | ⟨_, _, _, hv, _, _, h5, h6, _⟩
        · cases hv; omega
        · cases hv; unfold maxLen at h6; omega
      clear e1
      go_wp2
      go_ret
      exact ⟨aw, cw, T', rfl, HB.out, hcw, (fun j hj => by obtain ⟨b, hb, h4⟩ := rowg_c3 HRow.out hj; obtain ⟨⟨_, e2, _, e4, _⟩, h6⟩ := HT.out j hj; exact ⟨b, 0, hb, h4, h6, by rw [e2]; exact Nat.le_trans (hl j hj).1 (by decide), by rw [e4]; exact Nat.le_trans (hl j hj).2 (by decide)⟩), fun j hj => (HT.out j hj).1⟩

end Go.Proofs.Ytllpllebmknmpaa
namespace Go.Proofs.Ytllpllebmknmpaa
open Go.RowKit

theorem Cp.rl {w base B k X X'} {ao : Option Addr} {w0 : World} (h : Cp w base B k k X X') (hx : Rl w0 ao k X) : Rl w (some ⟨B, 0, none⟩) k X' := fun j hj => by
  obtain ⟨h1, ⟨_, e2, _, e4, _⟩, h3, _⟩ := h.el j hj
  obtain ⟨_, _, _, _, _, h5, h6⟩ := hx j hj
  exact ⟨B, 0, rfl, by rw [Nat.zero_add]; exact h1, h3, by rw [e2]; exact h5, by rw [e4]; exact h6⟩

end Go.Proofs.Ytllpllebmknmpaa
namespace Go.Proofs.Ytllpllebmknmpaa
open Go.RowKit

theorem bk_nob {w B vs t} (h : Bk w B vs t) (hv : ∀ v ∈ vs, ∃ a n c, v = Value.slice a n c) : ∀ o s, w.cell? ⟨B, o, none⟩ ≠ some (.bool s) := fun o s e => by
  unfold Bk at h
  simp only [World.cell?, h] at e
  have e' : vs[o]? = some (.bool s) := by simpa using e
  obtain ⟨a, n, c, h1⟩ := hv _ (List.mem_of_getElem? e')
  cases h1

set_option maxRecDepth 100000 in
set_option maxHeartbeats 4000000 in
theorem backP_c {w : World} {B : Nat} {n k : Int} (h : Sk w B n k) (fv : Value) (a0 a1 a2 : Option Addr) (k0 c0 k1 c1 k2 c2 : Nat) :
    Calls Try.prog 36 #[.pointer (some ⟨B, 0, none⟩), fv, .agg #[.slice a0 k0 c0, .slice a1 k1 c1, .slice a2 k2 c2]] w fun e w' => e = .returned (.agg #[.slice a0 k0 c0, .slice a1 k1 c1, .slice a2 k2 c2]) ∧ Below w.heap.size w w' := by
  have hb := below_alloc (below_alloc (Below.refl w.heap.size w) (.cells #[.slice a0 k0 c0, .slice a1 k1 c1, .slice a2 k2 c2] 32)) (.cells #[.slice none 0 0, .slice none 0 0, .slice none 0 0] 32)
  have B1 : Bk ((w.alloc (.cells #[.slice a0 k0 c0, .slice a1 k1 c1, .slice a2 k2 c2] 32)).alloc (.cells #[.slice none 0 0, .slice none 0 0, .slice none 0 0] 32)) w.heap.size [.slice a0 k0 c0, .slice a1 k1 c1, .slice a2 k2 c2] 32 := (bk_new w [.slice a0 k0 c0, .slice a1 k1 c1, .slice a2 k2 c2] 32).below (below_alloc (Below.refl _ _) (.cells #[.slice none 0 0, .slice none 0 0, .slice none 0 0] 32))
  have B2 : Bk ((w.alloc (.cells #[.slice a0 k0 c0, .slice a1 k1 c1, .slice a2 k2 c2] 32)).alloc (.cells #[.slice none 0 0, .slice none 0 0, .slice none 0 0] 32)) (w.heap.size + 1) [.slice none 0 0, .slice none 0 0, .slice none 0 0] 32 := by
    have := bk_new (w.alloc (.cells #[.slice a0 k0 c0, .slice a1 k1 c1, .slice a2 k2 c2] 32)) [.slice none 0 0, .slice none 0 0, .slice none 0 0] 32
    rw [size_alloc1] at this
    exact this
  have hsz : ((w.alloc (.cells #[.slice a0 k0 c0, .slice a1 k1 c1, .slice a2 k2 c2] 32)).alloc (.cells #[.slice none 0 0, .slice none 0 0, .slice none 0 0] 32)).heap.size = w.heap.size + 1 + 1 := by simp
  have hs := h.below hb
  clear h
  go_enter Try.func36, Try.ntmps36
  have hc4 := hs.c4
  go_wp2_with fail
  generalize (w.alloc (.cells #[.slice a0 k0 c0, .slice a1 k1 c1, .slice a2 k2 c2] 32)).alloc (.cells #[.slice none 0 0, .slice none 0 0, .slice none 0 0] 32) = w2 at *
  have r0 := B1.cell (j := 0) rfl
  have r1 := B1.cell (j := 1) rfl
  have r2 := B1.cell (j := 2) rfl
  have l0 := B2.cell (j := 0) rfl
  have l1 := B2.cell (j := 1) rfl
  have l2 := B2.cell (j := 2) rfl
  have ff := B2.frozen
  have HX := hid (st_new [.slice a0 k0 c0, .slice a1 k1 c1, .slice a2 k2 c2] B2 (nou_list (fun u hu q => by simp at hu; first | (subst hu; simp) | (rcases hu with rfl | rfl <;> simp) | (rcases hu with rfl | rfl | rfl <;> simp))) hb (by omega)).1
  clear hs hb B1 B2 hsz
  go_loopw [7] (fun t wr => t = .pointer none ∧ wr = w2) (fun _ _ => 0)
  case atStart => exact ⟨rfl, rfl⟩
  case round =>
    obtain ⟨rfl, rfl⟩ := hrel
    go_wp2
    exact bodyPost_ret (v := .agg #[.slice a0 k0 c0, .slice a1 k1 c1, .slice a2 k2 c2]) (by simp [results, Try.results36, go_sem, l0, l1, l2]) rfl ⟨rfl, HX.out⟩

set_option maxRecDepth 100000 in
set_option maxHeartbeats 4000000 in
theorem backC_c {w : World} {B : Nat} {n k : Int} (h : Sk w B n k) (fv : Value) (a0 a1 a2 a3 a4 : Option Addr) (k0 c0 k1 c1 k2 c2 k3 c3 k4 c4 : Nat) :
    Calls Try.prog 40 #[.pointer (some ⟨B, 0, none⟩), fv, .agg #[.slice a0 k0 c0, .slice a1 k1 c1, .slice a2 k2 c2, .slice a3 k3 c3, .slice a4 k4 c4]] w fun e w' => e = .returned (.agg #[.slice a0 k0 c0, .slice a1 k1 c1, .slice a2 k2 c2, .slice a3 k3 c3, .slice a4 k4 c4]) ∧ Below w.heap.size w w' := by
  have hb := below_alloc (below_alloc (Below.refl w.heap.size w) (.cells #[.slice a0 k0 c0, .slice a1 k1 c1, .slice a2 k2 c2, .slice a3 k3 c3, .slice a4 k4 c4] 89)) (.cells #[.slice none 0 0, .slice none 0 0, .slice none 0 0, .slice none 0 0, .slice none 0 0] 89)
  have B1 : Bk ((w.alloc (.cells #[.slice a0 k0 c0, .slice a1 k1 c1, .slice a2 k2 c2, .slice a3 k3 c3, .slice a4 k4 c4] 89)).alloc (.cells #[.slice none 0 0, .slice none 0 0, .slice none 0 0, .slice none 0 0, .slice none 0 0] 89)) w.heap.size [.slice a0 k0 c0, .slice a1 k1 c1, .slice a2 k2 c2, .slice a3 k3 c3, .slice a4 k4 c4] 89 := (bk_new w [.slice a0 k0 c0, .slice a1 k1 c1, .slice a2 k2 c2, .slice a3 k3 c3, .slice a4 k4 c4] 89).below (below_alloc (Below.refl _ _) (.cells #[.slice none 0 0, .slice none 0 0, .slice none 0 0, .slice none 0 0, .slice none 0 0] 89))
  have B2 : Bk ((w.alloc (.cells #[.slice a0 k0 c0, .slice a1 k1 c1, .slice a2 k2 c2, .slice a3 k3 c3, .slice a4 k4 c4] 89)).alloc (.cells #[.slice none 0 0, .slice none 0 0, .slice none 0 0, .slice none 0 0, .slice none 0 0] 89)) (w.heap.size + 1) [.slice none 0 0, .slice none 0 0, .slice none 0 0, .slice none 0 0, .slice none 0 0] 89 := by
    have := bk_new (w.alloc (.cells #[.slice a0 k0 c0, .slice a1 k1 c1, .slice a2 k2 c2, .slice a3 k3 c3, .slice a4 k4 c4] 89)) [.slice none 0 0, .slice none 0 0, .slice none 0 0, .slice none 0 0, .slice none 0 0] 89
    rw [size_alloc1] at this
    exact this
  have hsz : ((w.alloc (.cells #[.slice a0 k0 c0, .slice a1 k1 c1, .slice a2 k2 c2, .slice a3 k3 c3, .slice a4 k4 c4] 89)).alloc (.cells #[.slice none 0 0, .slice none 0 0, .slice none 0 0, .slice none 0 0, .slice none 0 0] 89)).heap.size = w.heap.size + 1 + 1 := by simp
  have hs := h.below hb
  clear h
  go_enter Try.func40, Try.ntmps40
  have hc4 := hs.c4
  go_wp2_with fail
  generalize (w.alloc (.cells #[.slice a0 k0 c0, .slice a1 k1 c1, .slice a2 k2 c2, .slice a3 k3 c3, .slice a4 k4 c4] 89)).alloc (.cells #[.slice none 0 0, .slice none 0 0, .slice none 0 0, .slice none 0 0, .slice none 0 0] 89) = w2 at *
  have r0 := B1.cell (j := 0) rfl
  have r1 := B1.cell (j := 1) rfl
  have r2 := B1.cell (j := 2) rfl
  have r3 := B1.cell (j := 3) rfl
  have r4 := B1.cell (j := 4) rfl
  have l0 := B2.cell (j := 0) rfl
  have l1 := B2.cell (j := 1) rfl
  have l2 := B2.cell (j := 2) rfl
  have l3 := B2.cell (j := 3) rfl
  have l4 := B2.cell (j := 4) rfl
  have ff := B2.frozen
  have HX := hid (st_new [.slice a0 k0 c0, .slice a1 k1 c1, .slice a2 k2 c2, .slice a3 k3 c3, .slice a4 k4 c4] B2 (nou_list (fun u hu q => by simp at hu; first | (subst hu; simp) | (rcases hu with rfl | rfl | rfl | rfl <;> simp) | (rcases hu with rfl | rfl | rfl <;> simp))) hb (by omega)).1
  clear hs hb B1 B2 hsz
  go_loopw [7] (fun t wr => t = .pointer none ∧ wr = w2) (fun _ _ => 0)
  case atStart => exact ⟨rfl, rfl⟩
  case round =>
    obtain ⟨rfl, rfl⟩ := hrel
    go_wp2
    exact bodyPost_ret (v := .agg #[.slice a0 k0 c0, .slice a1 k1 c1, .slice a2 k2 c2, .slice a3 k3 c3, .slice a4 k4 c4]) (by simp [results, Try.results40, go_sem, l0, l1, l2, l3, l4]) rfl ⟨rfl, HX.out⟩

/-- What it answers. -/
def CpPointAns (w w' : World) (e : Ending) (k0 : Nat) (X0 : Nat → Nm) (k1 : Nat) (X1 : Nat → Nm) (k2 : Nat) (X2 : Nat → Nm) : Prop := ∃ g0 Y0 g1 Y1 g2 Y2, e = .returned (.agg #[.slice (some ⟨g0, 0, none⟩) k0 k0, .slice (some ⟨g1, 0, none⟩) k1 k1, .slice (some ⟨g2, 0, none⟩) k2 k2]) ∧ Below w.heap.size w w' ∧ Hid (Cp w' w.heap.size g0 k0 k0 X0 Y0 ∧ Cp w' w.heap.size g1 k1 k1 X1 Y1 ∧ Cp w' w.heap.size g2 k2 k2 X2 Y2)
set_option maxRecDepth 100000 in
set_option maxHeartbeats 4000000 in
theorem cpPoint_c {w : World} {a0 a1 a2 : Option Addr} {k0 c0 k1 c1 k2 c2 : Nat} {X0 X1 X2 : Nat → Nm} (h0 : Rl w a0 k0 X0) (h1 : Rl w a1 k1 X1) (h2 : Rl w a2 k2 X2) (hk0 : k0 ≤ 1048576) (hk1 : k1 ≤ 1048576) (hk2 : k2 ≤ 1048576) :
    Calls Try.prog 37 #[.agg #[.slice a0 k0 c0, .slice a1 k1 c1, .slice a2 k2 c2]] w fun e w' => CpPointAns w w' e k0 X0 k1 X1 k2 X2 := by
  have C0 := hid (fun W (hW : Below w.heap.size w W) => copied_c (w := W) (cap := c0) (h0.below hW) hk0)
  have C1 := hid (fun W (hW : Below w.heap.size w W) => copied_c (w := W) (cap := c1) (h1.below hW) hk1)
  have C2 := hid (fun W (hW : Below w.heap.size w W) => copied_c (w := W) (cap := c2) (h2.below hW) hk2)
  clear h0 h1 h2
  have hb := below_alloc (below_alloc (Below.refl w.heap.size w) (.cells #[.slice a0 k0 c0, .slice a1 k1 c1, .slice a2 k2 c2] 32)) (.cells #[.slice none 0 0, .slice none 0 0, .slice none 0 0] 32)
  have B1 : Bk ((w.alloc (.cells #[.slice a0 k0 c0, .slice a1 k1 c1, .slice a2 k2 c2] 32)).alloc (.cells #[.slice none 0 0, .slice none 0 0, .slice none 0 0] 32)) w.heap.size [.slice a0 k0 c0, .slice a1 k1 c1, .slice a2 k2 c2] 32 := (bk_new w [.slice a0 k0 c0, .slice a1 k1 c1, .slice a2 k2 c2] 32).below (below_alloc (Below.refl _ _) (.cells #[.slice none 0 0, .slice none 0 0, .slice none 0 0] 32))
  have B2 : Bk ((w.alloc (.cells #[.slice a0 k0 c0, .slice a1 k1 c1, .slice a2 k2 c2] 32)).alloc (.cells #[.slice none 0 0, .slice none 0 0, .slice none 0 0] 32)) (w.heap.size + 1) [.slice none 0 0, .slice none 0 0, .slice none 0 0] 32 := by
    have := bk_new (w.alloc (.cells #[.slice a0 k0 c0, .slice a1 k1 c1, .slice a2 k2 c2] 32)) [.slice none 0 0, .slice none 0 0, .slice none 0 0] 32
    rw [size_alloc1] at this
    exact this
  have hsz : ((w.alloc (.cells #[.slice a0 k0 c0, .slice a1 k1 c1, .slice a2 k2 c2] 32)).alloc (.cells #[.slice none 0 0, .slice none 0 0, .slice none 0 0] 32)).heap.size = w.heap.size + 1 + 1 := by simp
  obtain ⟨P, hP⟩ : ∃ P : Ending → World → Prop, P = fun e w' => CpPointAns w w' e k0 X0 k1 X1 k2 X2 := ⟨_, rfl⟩
  rw [← hP]
  have HA := hid hP
  clear hP
  go_enter Try.func37, Try.ntmps37
  go_upto_region 1 with fail
  generalize (w.alloc (.cells #[.slice a0 k0 c0, .slice a1 k1 c1, .slice a2 k2 c2] 32)).alloc (.cells #[.slice none 0 0, .slice none 0 0, .slice none 0 0] 32) = w1 at *
  have hbd := Below.drew (Below.refl w1.heap.size w1)
  replace B1 := B1.below hbd; replace B2 := B2.below hbd
  have hsz1 : w1.drew.heap.size = w.heap.size + 1 + 1 := hsz
  have HW := hid (hb.trans (hbd.mono hb.size))
  clear hbd hb hsz
  have r0 := B1.cell (j := 0) rfl
  have r1 := B1.cell (j := 1) rfl
  have r2 := B1.cell (j := 2) rfl
  refine wp_region_held_drew (S := (fun w' => w'.cell? ⟨w.heap.size, 0, none⟩ = some (.slice a0 k0 c0) ∧ w'.cell? ⟨w.heap.size, 1, none⟩ = some (.slice a1 k1 c1) ∧ w'.cell? ⟨w.heap.size, 2, none⟩ = some (.slice a2 k2 c2))) (by kernel_rfl) ?_ (fun hHeld => ?_)
  · exact ⟨r0, r1, r2⟩
  generalize w1.drew = wd at *
  refine wpAnyH_take (i := 0) (v := ?_) rfl (by kernel_rfl) (by kernel_rfl) (by kernel_rfl) (fun _ _ _ h => h) (Or.inl ⟨by rfl, ?_⟩) (by assumption) ?_
  rotate_left
  (focus (intro w0 hSw; (try dsimp only at hSw); go_simp <;> with_reducible rfl))
  simp only [List.getElem_toArray, List.getElem_cons_zero, Act.put, List.setIfInBounds_toArray, List.set_cons_zero, List.set_cons_succ]
  refine wpAnyH_take (i := 1) (v := ?_) rfl (by kernel_rfl) (by kernel_rfl) (by kernel_rfl) (fun _ _ _ h => h) (Or.inl ⟨by rfl, ?_⟩) (by assumption) ?_
  rotate_left
  (focus (intro w0 hSw; (try dsimp only at hSw); go_simp <;> with_reducible rfl))
  simp only [List.getElem_toArray, List.getElem_cons_succ, List.getElem_cons_zero, Act.put, List.setIfInBounds_toArray, List.set_cons_zero, List.set_cons_succ]
  refine wpAnyH_take (i := 3) (v := ?_) rfl (by kernel_rfl) (by kernel_rfl) (by kernel_rfl) (fun _ _ _ h => h) (Or.inl ⟨by rfl, ?_⟩) (by assumption) ?_
  rotate_left
  (focus (intro w0 hSw; (try dsimp only at hSw); go_simp <;> with_reducible rfl))
  simp only [List.getElem_toArray, List.getElem_cons_succ, List.getElem_cons_zero, Act.put, List.setIfInBounds_toArray, List.set_cons_zero, List.set_cons_succ]
  refine wpAnyH_take (i := 4) (v := ?_) rfl (by kernel_rfl) (by kernel_rfl) (by kernel_rfl) (fun _ _ _ h => h) (Or.inl ⟨by rfl, ?_⟩) (by assumption) ?_
  rotate_left
  (focus (intro w0 hSw; (try dsimp only at hSw); go_simp <;> with_reducible rfl))
  simp only [List.getElem_toArray, List.getElem_cons_succ, List.getElem_cons_zero, Act.put, List.setIfInBounds_toArray, List.set_cons_zero, List.set_cons_succ]
  refine wpAnyH_take (i := 6) (v := ?_) rfl (by kernel_rfl) (by kernel_rfl) (by kernel_rfl) (fun _ _ _ h => h) (Or.inl ⟨by rfl, ?_⟩) (by assumption) ?_
  rotate_left
  (focus (intro w0 hSw; (try dsimp only at hSw); go_simp <;> with_reducible rfl))
  simp only [List.getElem_toArray, List.getElem_cons_succ, List.getElem_cons_zero, Act.put, List.setIfInBounds_toArray, List.set_cons_zero, List.set_cons_succ]
  refine wpAnyH_take (i := 7) (v := ?_) rfl (by kernel_rfl) (by kernel_rfl) (by kernel_rfl) (fun _ _ _ h => h) (Or.inl ⟨by rfl, ?_⟩) (by assumption) ?_
  rotate_left
  (focus (intro w0 hSw; (try dsimp only at hSw); go_simp <;> with_reducible rfl))
  simp only [List.getElem_toArray, List.getElem_cons_succ, List.getElem_cons_zero, Act.put, List.setIfInBounds_toArray, List.set_cons_zero, List.set_cons_succ]
  refine wpAnyH_ready (rs := [2]) (by kernel_rfl) (by simp) ?_
  refine AllReadyH.cons (o := _) rfl (fun K hK => ?_) ?_
  rotate_left
  exact AllReadyH.nil
  go_simp
  go_at_call 44
  refine (C0.out _ HW.out).mono ?_
  rintro e w2 ⟨g0, Y0, rfl, hb0, HQ0⟩
  replace B1 := B1.below hb0; replace B2 := B2.below hb0
  have HW0 := hid (HW.out.trans (hb0.mono HW.out.size))
  have hs0 : wd.heap.size ≤ w2.heap.size := hb0.size
  (try go_wp2_with fail)
  refine hK.out _ _ ?_ (fun hH0 => ?_)
  · ((try dsimp only); (refine ⟨?_, ?_, ?_⟩ <;> repeat (with_reducible first | assumption | refine kCb (by assumption) ?_)))
  clear hK K
  try simp only [Act.put, List.setIfInBounds_toArray, List.set_cons_zero, List.set_cons_succ]
  refine wpAnyH_ready (rs := [5]) (by kernel_rfl) (by simp) ?_
  refine AllReadyH.cons (o := _) rfl (fun K hK => ?_) ?_
  rotate_left
  exact AllReadyH.nil
  go_simp
  go_at_call 44
  refine (C1.out _ HW0.out).mono ?_
  rintro e w3 ⟨g1, Y1, rfl, hb1, HQ1⟩
  replace B1 := B1.below hb1; replace B2 := B2.below hb1
  have HW1 := hid (HW0.out.trans (hb1.mono HW0.out.size))
  have hs1 : w2.heap.size ≤ w3.heap.size := hb1.size
  replace HQ0 := hid (HQ0.out.below hb1)
  (try go_wp2_with fail)
  refine hK.out _ _ ?_ (fun hH1 => ?_)
  · ((try dsimp only); (refine ⟨?_, ?_, ?_⟩ <;> repeat (with_reducible first | assumption | refine kCb (by assumption) ?_)))
  clear hK K
  try simp only [Act.put, List.setIfInBounds_toArray, List.set_cons_zero, List.set_cons_succ]
  refine wpAnyH_ready (rs := [8]) (by kernel_rfl) (by simp) ?_
  refine AllReadyH.cons (o := _) rfl (fun K hK => ?_) ?_
  rotate_left
  exact AllReadyH.nil
  go_simp
  go_at_call 44
  refine (C2.out _ HW1.out).mono ?_
  rintro e w4 ⟨g2, Y2, rfl, hb2, HQ2⟩
  replace B1 := B1.below hb2; replace B2 := B2.below hb2
  have HW2 := hid (HW1.out.trans (hb2.mono HW1.out.size))
  have hs2 : w3.heap.size ≤ w4.heap.size := hb2.size
  replace HQ0 := hid (HQ0.out.below hb2)
  replace HQ1 := hid (HQ1.out.below hb2)
  (try go_wp2_with fail)
  refine hK.out _ _ ?_ (fun hH2 => ?_)
  · ((try dsimp only); (refine ⟨?_, ?_, ?_⟩ <;> repeat (with_reducible first | assumption | refine kCb (by assumption) ?_)))
  clear hK K
  try simp only [Act.put, List.setIfInBounds_toArray, List.set_cons_zero, List.set_cons_succ]
  refine wpAnyH_take (i := 9) (v := ?_) rfl (by kernel_rfl) (by kernel_rfl) (by kernel_rfl) (fun _ _ _ h => h) (Or.inl ⟨by rfl, ?_⟩) (by assumption) ?_
  rotate_left
  (focus (intro w0 hSw; (try dsimp only at hSw); go_simp <;> with_reducible rfl))
  simp only [List.getElem_toArray, List.getElem_cons_succ, List.getElem_cons_zero, Act.put, List.setIfInBounds_toArray, List.set_cons_zero, List.set_cons_succ]
  have l0 := B2.cell (j := 0) rfl
  have l1 := B2.cell (j := 1) rfl
  have l2 := B2.cell (j := 2) rfl
  have ff := B2.frozen
  refine wpAnyH_ready (rs := [10]) (by kernel_rfl) (by simp) ?_
  refine AllReadyH.cons (o := _) rfl (fun K hK => ?_) ?_
  rotate_left
  exact AllReadyH.nil
  go_simp
  obtain ⟨hx1, hx2, hx3⟩ := st_new [.slice (some ⟨g0, 0, none⟩) k0 k0, .slice (some ⟨g1, 0, none⟩) k1 k1, .slice (some ⟨g2, 0, none⟩) k2 k2] B2 (nou_list (fun u hu q => by simp at hu; first | (subst hu; simp) | (rcases hu with rfl | rfl <;> simp) | (rcases hu with rfl | rfl | rfl <;> simp))) HW2.out (Nat.le_succ _)
  have hnb := bk_nob B2 (fun v hv => by simp at hv; subst hv; exact ⟨_, _, _, rfl⟩)
  have B9 := stl_bk [.slice (some ⟨g0, 0, none⟩) k0 k0, .slice (some ⟨g1, 0, none⟩) k1 k1, .slice (some ⟨g2, 0, none⟩) k2 k2] _ 0 _ rfl B2
  obtain ⟨w9, hw9⟩ : ∃ x, stl (w.heap.size + 1) 0 [.slice (some ⟨g0, 0, none⟩) k0 k0, .slice (some ⟨g1, 0, none⟩) k1 k1, .slice (some ⟨g2, 0, none⟩) k2 k2] w4 = x := ⟨_, rfl⟩
  rw [show (((w4.setCell ⟨w.heap.size + 1, 0, none⟩ (.slice (some ⟨g0, 0, none⟩) k0 k0)).setCell ⟨w.heap.size + 1, 1, none⟩ (.slice (some ⟨g1, 0, none⟩) k1 k1)).setCell ⟨w.heap.size + 1, 2, none⟩ (.slice (some ⟨g2, 0, none⟩) k2 k2)) = w9 from hw9]
  rw [hw9] at hx1 hx2 hx3 B9
  replace B9 : Bk w9 (w.heap.size + 1) [.slice (some ⟨g0, 0, none⟩) k0 k0, .slice (some ⟨g1, 0, none⟩) k1 k1, .slice (some ⟨g2, 0, none⟩) k2 k2] _ := B9
  have B8 := B1.of (hx3 w.heap.size (by omega))
  have e0 := B8.cell (j := 0) rfl
  have e1 := B8.cell (j := 1) rfl
  have e2 := B8.cell (j := 2) rfl
  clear hw9 ff l0 l1 l2
  refine hK.out _ _ ⟨e0, e1, e2⟩ (fun hH9 => ?_)
  clear hK K
  try simp only [Act.put]
  have l0 := B9.cell (j := 0) rfl
  have l1 := B9.cell (j := 1) rfl
  have l2 := B9.cell (j := 2) rfl
  refine wpAnyH_done (by kernel_rfl) ?_ _
  have HX : Hid (P (.returned (.agg #[.slice (some ⟨g0, 0, none⟩) k0 k0, .slice (some ⟨g1, 0, none⟩) k1 k1, .slice (some ⟨g2, 0, none⟩) k2 k2])) w9) := by
    rw [HA.out]
    exact ⟨g0, Y0, g1, Y1, g2, Y2, rfl, hx1, (HQ0.out.low HW.out.size).kp hx2 (hx3 _ (by have := HQ0.out.ge; omega)), (HQ1.out.low HW0.out.size).kp hx2 (hx3 _ (by have := HQ1.out.ge; omega)), (HQ2.out.low HW1.out.size).kp hx2 (hx3 _ (by have := HQ2.out.ge; omega))⟩
  clear hx1 hx2 hx3 hnb B1 B2 B8 hHeld hH9 HW HA HQ0 C0 HW0 hH0 hb0 HQ1 C1 HW1 hH1 hb1 HQ2 C2 HW2 hH2 hb2
  go_wp2
  exact bodyPost_ret (v := .agg #[.slice (some ⟨g0, 0, none⟩) k0 k0, .slice (some ⟨g1, 0, none⟩) k1 k1, .slice (some ⟨g2, 0, none⟩) k2 k2]) (by simp [results, Try.results37, go_sem, l0, l1, l2]) rfl HX.out

/-- What it answers. -/
def TwPointAns (w w' : World) (e : Ending) (k0 : Nat) (X0 : Nat → Nm) (k1 : Nat) (X1 : Nat → Nm) (k2 : Nat) (X2 : Nat → Nm) : Prop := ∃ b0 d0 Y0 b1 d1 Y1 b2 d2 Y2, e = .returned (.agg #[.slice b0 k0 d0, .slice b1 k1 d1, .slice b2 k2 d2]) ∧ Below w.heap.size w w' ∧ ((k0 ≤ d0 ∧ d0 ≤ 9223372036854775807) ∧ (k1 ≤ d1 ∧ d1 ≤ 9223372036854775807) ∧ (k2 ≤ d2 ∧ d2 ≤ 9223372036854775807)) ∧ Hid ((Rl w' b0 k0 Y0 ∧ ∀ j, j < k0 → Sn (X0 j) (Y0 j)) ∧ (Rl w' b1 k1 Y1 ∧ ∀ j, j < k1 → Sn (X1 j) (Y1 j)) ∧ (Rl w' b2 k2 Y2 ∧ ∀ j, j < k2 → Sn (X2 j) (Y2 j)))
set_option maxRecDepth 100000 in
set_option maxHeartbeats 4000000 in
theorem twPoint_c {w : World} {a0 a1 a2 : Option Addr} {k0 c0 k1 c1 k2 c2 : Nat} {X0 X1 X2 : Nat → Nm} (h0 : Rl w a0 k0 X0) (h1 : Rl w a1 k1 X1) (h2 : Rl w a2 k2 X2) (hk0 : k0 ≤ 10000) (hk1 : k1 ≤ 10000) (hk2 : k2 ≤ 10000) (hl0 : ∀ j, j < k0 → (X0 j).n ≤ 1000 ∧ (X0 j).m ≤ 1000) (hl1 : ∀ j, j < k1 → (X1 j).n ≤ 1000 ∧ (X1 j).m ≤ 1000) (hl2 : ∀ j, j < k2 → (X2 j).n ≤ 1000 ∧ (X2 j).m ≤ 1000) :
    Calls Try.prog 19 #[.agg #[.slice a0 k0 c0, .slice a1 k1 c1, .slice a2 k2 c2]] w fun e w' => TwPointAns w w' e k0 X0 k1 X1 k2 X2 := by
  have C0 := hid (fun W (hW : Below w.heap.size w W) => twins_c (w := W) (cap := c0) (h0.below hW) hk0 hl0)
  have C1 := hid (fun W (hW : Below w.heap.size w W) => twins_c (w := W) (cap := c1) (h1.below hW) hk1 hl1)
  have C2 := hid (fun W (hW : Below w.heap.size w W) => twins_c (w := W) (cap := c2) (h2.below hW) hk2 hl2)
  clear h0 h1 h2
  have hb := below_alloc (below_alloc (Below.refl w.heap.size w) (.cells #[.slice a0 k0 c0, .slice a1 k1 c1, .slice a2 k2 c2] 32)) (.cells #[.slice none 0 0, .slice none 0 0, .slice none 0 0] 32)
  have B1 : Bk ((w.alloc (.cells #[.slice a0 k0 c0, .slice a1 k1 c1, .slice a2 k2 c2] 32)).alloc (.cells #[.slice none 0 0, .slice none 0 0, .slice none 0 0] 32)) w.heap.size [.slice a0 k0 c0, .slice a1 k1 c1, .slice a2 k2 c2] 32 := (bk_new w [.slice a0 k0 c0, .slice a1 k1 c1, .slice a2 k2 c2] 32).below (below_alloc (Below.refl _ _) (.cells #[.slice none 0 0, .slice none 0 0, .slice none 0 0] 32))
  have B2 : Bk ((w.alloc (.cells #[.slice a0 k0 c0, .slice a1 k1 c1, .slice a2 k2 c2] 32)).alloc (.cells #[.slice none 0 0, .slice none 0 0, .slice none 0 0] 32)) (w.heap.size + 1) [.slice none 0 0, .slice none 0 0, .slice none 0 0] 32 := by
    have := bk_new (w.alloc (.cells #[.slice a0 k0 c0, .slice a1 k1 c1, .slice a2 k2 c2] 32)) [.slice none 0 0, .slice none 0 0, .slice none 0 0] 32
    rw [size_alloc1] at this
    exact this
  have hsz : ((w.alloc (.cells #[.slice a0 k0 c0, .slice a1 k1 c1, .slice a2 k2 c2] 32)).alloc (.cells #[.slice none 0 0, .slice none 0 0, .slice none 0 0] 32)).heap.size = w.heap.size + 1 + 1 := by simp
  obtain ⟨P, hP⟩ : ∃ P : Ending → World → Prop, P = fun e w' => TwPointAns w w' e k0 X0 k1 X1 k2 X2 := ⟨_, rfl⟩
  rw [← hP]
  have HA := hid hP
  clear hP
  go_enter Try.func19, Try.ntmps19
  go_upto_region 1 with fail
  generalize (w.alloc (.cells #[.slice a0 k0 c0, .slice a1 k1 c1, .slice a2 k2 c2] 32)).alloc (.cells #[.slice none 0 0, .slice none 0 0, .slice none 0 0] 32) = w1 at *
  have hbd := Below.drew (Below.refl w1.heap.size w1)
  replace B1 := B1.below hbd; replace B2 := B2.below hbd
  have hsz1 : w1.drew.heap.size = w.heap.size + 1 + 1 := hsz
  have HW := hid (hb.trans (hbd.mono hb.size))
  clear hbd hb hsz
  have r0 := B1.cell (j := 0) rfl
  have r1 := B1.cell (j := 1) rfl
  have r2 := B1.cell (j := 2) rfl
  refine wp_region_held_drew (S := (fun w' => w'.cell? ⟨w.heap.size, 0, none⟩ = some (.slice a0 k0 c0) ∧ w'.cell? ⟨w.heap.size, 1, none⟩ = some (.slice a1 k1 c1) ∧ w'.cell? ⟨w.heap.size, 2, none⟩ = some (.slice a2 k2 c2))) (by kernel_rfl) ?_ (fun hHeld => ?_)
  · exact ⟨r0, r1, r2⟩
  generalize w1.drew = wd at *
  refine wpAnyH_take (i := 0) (v := ?_) rfl (by kernel_rfl) (by kernel_rfl) (by kernel_rfl) (fun _ _ _ h => h) (Or.inl ⟨by rfl, ?_⟩) (by assumption) ?_
  rotate_left
  (focus (intro w0 hSw; (try dsimp only at hSw); go_simp <;> with_reducible rfl))
  simp only [List.getElem_toArray, List.getElem_cons_zero, Act.put, List.setIfInBounds_toArray, List.set_cons_zero, List.set_cons_succ]
  refine wpAnyH_take (i := 1) (v := ?_) rfl (by kernel_rfl) (by kernel_rfl) (by kernel_rfl) (fun _ _ _ h => h) (Or.inl ⟨by rfl, ?_⟩) (by assumption) ?_
  rotate_left
  (focus (intro w0 hSw; (try dsimp only at hSw); go_simp <;> with_reducible rfl))
  simp only [List.getElem_toArray, List.getElem_cons_succ, List.getElem_cons_zero, Act.put, List.setIfInBounds_toArray, List.set_cons_zero, List.set_cons_succ]
  refine wpAnyH_take (i := 3) (v := ?_) rfl (by kernel_rfl) (by kernel_rfl) (by kernel_rfl) (fun _ _ _ h => h) (Or.inl ⟨by rfl, ?_⟩) (by assumption) ?_
  rotate_left
  (focus (intro w0 hSw; (try dsimp only at hSw); go_simp <;> with_reducible rfl))
  simp only [List.getElem_toArray, List.getElem_cons_succ, List.getElem_cons_zero, Act.put, List.setIfInBounds_toArray, List.set_cons_zero, List.set_cons_succ]
  refine wpAnyH_take (i := 4) (v := ?_) rfl (by kernel_rfl) (by kernel_rfl) (by kernel_rfl) (fun _ _ _ h => h) (Or.inl ⟨by rfl, ?_⟩) (by assumption) ?_
  rotate_left
  (focus (intro w0 hSw; (try dsimp only at hSw); go_simp <;> with_reducible rfl))
  simp only [List.getElem_toArray, List.getElem_cons_succ, List.getElem_cons_zero, Act.put, List.setIfInBounds_toArray, List.set_cons_zero, List.set_cons_succ]
  refine wpAnyH_take (i := 6) (v := ?_) rfl (by kernel_rfl) (by kernel_rfl) (by kernel_rfl) (fun _ _ _ h => h) (Or.inl ⟨by rfl, ?_⟩) (by assumption) ?_
  rotate_left
  (focus (intro w0 hSw; (try dsimp only at hSw); go_simp <;> with_reducible rfl))
  simp only [List.getElem_toArray, List.getElem_cons_succ, List.getElem_cons_zero, Act.put, List.setIfInBounds_toArray, List.set_cons_zero, List.set_cons_succ]
  refine wpAnyH_take (i := 7) (v := ?_) rfl (by kernel_rfl) (by kernel_rfl) (by kernel_rfl) (fun _ _ _ h => h) (Or.inl ⟨by rfl, ?_⟩) (by assumption) ?_
  rotate_left
  (focus (intro w0 hSw; (try dsimp only at hSw); go_simp <;> with_reducible rfl))
  simp only [List.getElem_toArray, List.getElem_cons_succ, List.getElem_cons_zero, Act.put, List.setIfInBounds_toArray, List.set_cons_zero, List.set_cons_succ]
  refine wpAnyH_ready (rs := [2]) (by kernel_rfl) (by simp) ?_
  refine AllReadyH.cons (o := _) rfl (fun K hK => ?_) ?_
  rotate_left
  exact AllReadyH.nil
  go_simp
  go_at_call 14
  refine (C0.out _ HW.out).mono ?_
  rintro e w2 ⟨b0, d0, Y0, rfl, hb0, hd0, HQ0⟩
  replace B1 := B1.below hb0; replace B2 := B2.below hb0
  have HW0 := hid (HW.out.trans (hb0.mono HW.out.size))
  (try go_wp2_with fail)
  refine hK.out _ _ ?_ (fun hH0 => ?_)
  · ((try dsimp only); (refine ⟨?_, ?_, ?_⟩ <;> repeat (with_reducible first | assumption | refine kCb (by assumption) ?_)))
  clear hK K
  try simp only [Act.put, List.setIfInBounds_toArray, List.set_cons_zero, List.set_cons_succ]
  refine wpAnyH_ready (rs := [5]) (by kernel_rfl) (by simp) ?_
  refine AllReadyH.cons (o := _) rfl (fun K hK => ?_) ?_
  rotate_left
  exact AllReadyH.nil
  go_simp
  go_at_call 14
  refine (C1.out _ HW0.out).mono ?_
  rintro e w3 ⟨b1, d1, Y1, rfl, hb1, hd1, HQ1⟩
  replace B1 := B1.below hb1; replace B2 := B2.below hb1
  have HW1 := hid (HW0.out.trans (hb1.mono HW0.out.size))
  replace HQ0 : Hid (Rl w3 b0 k0 Y0 ∧ ∀ j, j < k0 → Sn (X0 j) (Y0 j)) := ⟨HQ0.out.1.below hb1, HQ0.out.2⟩
  (try go_wp2_with fail)
  refine hK.out _ _ ?_ (fun hH1 => ?_)
  · ((try dsimp only); (refine ⟨?_, ?_, ?_⟩ <;> repeat (with_reducible first | assumption | refine kCb (by assumption) ?_)))
  clear hK K
  try simp only [Act.put, List.setIfInBounds_toArray, List.set_cons_zero, List.set_cons_succ]
  refine wpAnyH_ready (rs := [8]) (by kernel_rfl) (by simp) ?_
  refine AllReadyH.cons (o := _) rfl (fun K hK => ?_) ?_
  rotate_left
  exact AllReadyH.nil
  go_simp
  go_at_call 14
  refine (C2.out _ HW1.out).mono ?_
  rintro e w4 ⟨b2, d2, Y2, rfl, hb2, hd2, HQ2⟩
  replace B1 := B1.below hb2; replace B2 := B2.below hb2
  have HW2 := hid (HW1.out.trans (hb2.mono HW1.out.size))
  replace HQ0 : Hid (Rl w4 b0 k0 Y0 ∧ ∀ j, j < k0 → Sn (X0 j) (Y0 j)) := ⟨HQ0.out.1.below hb2, HQ0.out.2⟩
  replace HQ1 : Hid (Rl w4 b1 k1 Y1 ∧ ∀ j, j < k1 → Sn (X1 j) (Y1 j)) := ⟨HQ1.out.1.below hb2, HQ1.out.2⟩
  (try go_wp2_with fail)
  refine hK.out _ _ ?_ (fun hH2 => ?_)
  · ((try dsimp only); (refine ⟨?_, ?_, ?_⟩ <;> repeat (with_reducible first | assumption | refine kCb (by assumption) ?_)))
  clear hK K
  try simp only [Act.put, List.setIfInBounds_toArray, List.set_cons_zero, List.set_cons_succ]
  refine wpAnyH_take (i := 9) (v := ?_) rfl (by kernel_rfl) (by kernel_rfl) (by kernel_rfl) (fun _ _ _ h => h) (Or.inl ⟨by rfl, ?_⟩) (by assumption) ?_
  rotate_left
  (focus (intro w0 hSw; (try dsimp only at hSw); go_simp <;> with_reducible rfl))
  simp only [List.getElem_toArray, List.getElem_cons_succ, List.getElem_cons_zero, Act.put, List.setIfInBounds_toArray, List.set_cons_zero, List.set_cons_succ]
  have l0 := B2.cell (j := 0) rfl
  have l1 := B2.cell (j := 1) rfl
  have l2 := B2.cell (j := 2) rfl
  have ff := B2.frozen
  refine wpAnyH_ready (rs := [10]) (by kernel_rfl) (by simp) ?_
  refine AllReadyH.cons (o := _) rfl (fun K hK => ?_) ?_
  rotate_left
  exact AllReadyH.nil
  go_simp
  obtain ⟨hx1, hx2, hx3⟩ := st_new [.slice b0 k0 d0, .slice b1 k1 d1, .slice b2 k2 d2] B2 (nou_list (fun u hu q => by simp at hu; first | (subst hu; simp) | (rcases hu with rfl | rfl <;> simp) | (rcases hu with rfl | rfl | rfl <;> simp))) HW2.out (Nat.le_succ _)
  have hnb := bk_nob B2 (fun v hv => by simp at hv; subst hv; exact ⟨_, _, _, rfl⟩)
  have B9 := stl_bk [.slice b0 k0 d0, .slice b1 k1 d1, .slice b2 k2 d2] _ 0 _ rfl B2
  obtain ⟨w9, hw9⟩ : ∃ x, stl (w.heap.size + 1) 0 [.slice b0 k0 d0, .slice b1 k1 d1, .slice b2 k2 d2] w4 = x := ⟨_, rfl⟩
  rw [show (((w4.setCell ⟨w.heap.size + 1, 0, none⟩ (.slice b0 k0 d0)).setCell ⟨w.heap.size + 1, 1, none⟩ (.slice b1 k1 d1)).setCell ⟨w.heap.size + 1, 2, none⟩ (.slice b2 k2 d2)) = w9 from hw9]
  rw [hw9] at hx1 hx2 hx3 B9
  replace B9 : Bk w9 (w.heap.size + 1) [.slice b0 k0 d0, .slice b1 k1 d1, .slice b2 k2 d2] _ := B9
  have B8 := B1.of (hx3 w.heap.size (by omega))
  have e0 := B8.cell (j := 0) rfl
  have e1 := B8.cell (j := 1) rfl
  have e2 := B8.cell (j := 2) rfl
  clear hw9 ff l0 l1 l2
  refine hK.out _ _ ⟨e0, e1, e2⟩ (fun hH9 => ?_)
  clear hK K
  try simp only [Act.put]
  have l0 := B9.cell (j := 0) rfl
  have l1 := B9.cell (j := 1) rfl
  have l2 := B9.cell (j := 2) rfl
  refine wpAnyH_done (by kernel_rfl) ?_ _
  have HX : Hid (P (.returned (.agg #[.slice b0 k0 d0, .slice b1 k1 d1, .slice b2 k2 d2])) w9) := by
    rw [HA.out]
    exact ⟨b0, d0, Y0, b1, d1, Y1, b2, d2, Y2, rfl, hx1, ⟨hd0, hd1, hd2⟩, ⟨HQ0.out.1.st hx2 hx3 hnb, HQ0.out.2⟩, ⟨HQ1.out.1.st hx2 hx3 hnb, HQ1.out.2⟩, ⟨HQ2.out.1.st hx2 hx3 hnb, HQ2.out.2⟩⟩
  clear hx1 hx2 hx3 hnb B1 B2 B8 hHeld hH9 HW HA HQ0 C0 HW0 hH0 hb0 HQ1 C1 HW1 hH1 hb1 HQ2 C2 HW2 hH2 hb2
  go_wp2
  exact bodyPost_ret (v := .agg #[.slice b0 k0 d0, .slice b1 k1 d1, .slice b2 k2 d2]) (by simp [results, Try.results19, go_sem, l0, l1, l2]) rfl HX.out

end Go.Proofs.Ytllpllebmknmpaa
namespace Go.Proofs.Ytllpllebmknmpaa
open Go.RowKit

theorem slift_c {w : World} {B : Nat} {n k : Int} {ao : Option Addr} {l cap : Nat} {X : Nat → Nm} (hs : Sk w B n k) (h : Rl w ao l X) (hl : l ≤ 1048576) :
    Calls Try.prog 17 #[.pointer (some ⟨B, 0, none⟩), .slice ao l cap] w fun e w' => NumAns w w' e l X n := by
  have H := hid h; have HS := hid hs
  clear h hs
  go_enter Try.func17, Try.ntmps17
  go_wp2_with fail
  refine (snumbers_c HS.out H.out hl _).mono ?_
  rintro e w1 ⟨hb1, ⟨h0, rfl⟩ | ⟨h0, g, Y, rfl, hc⟩⟩
  · have HB := hid hb1; have H0 := hid h0
    clear hb1 h0
    go_wp2
    go_ret2
    exact ⟨HB.out, .inl ⟨H0.out, rfl⟩⟩
  · have HB := hid hb1; have H0 := hid h0; have HC := hid hc
    clear hb1 h0 hc
    go_wp2
    go_ret2
    exact ⟨HB.out, .inr ⟨H0.out, g, Y, rfl, HC.out⟩⟩
def tri (e0 e1 e2 : Int) (j : Nat) : Int := if j = 0 then e0 else if j = 1 then e1 else e2
theorem tri_el {w : World} {e0 e1 e2 : Int} {t : TypeId} : El (w.alloc (.cells #[.int .i64 e0, .int .i64 e1, .int .i64 e2] t)) (some ⟨w.heap.size, 0, none⟩) 3 (tri e0 e1 e2) := fun j hj => by
  refine ⟨_, 0, rfl, ?_⟩
  match j, hj with
  | 0, _ => simp [go_sem, tri]
  | 1, _ => simp [go_sem, tri]
  | 2, _ => simp [go_sem, tri]
/-- The error of a point that is handed in. -/
def ptE (n k : Int) (k0 : Nat) (X0 : Nat → Nm) (k1 : Nat) (X1 : Nat → Nm) (k2 : Nat) (X2 : Nat → Nm) : Int := lsf (tri (pnE k0 X0 n) (pnE k1 X1 k) (pnE k2 X2 n)) 3
set_option maxRecDepth 100000 in
set_option maxHeartbeats 4000000 in
theorem checkPoint_c {w : World} {B : Nat} {n k : Int} {a0 a1 a2 : Option Addr} {k0 c0 k1 c1 k2 c2 : Nat} {X0 X1 X2 : Nat → Nm} (hs : Sk w B n k) (h0 : Rl w a0 k0 X0) (h1 : Rl w a1 k1 X1) (h2 : Rl w a2 k2 X2) (hk0 : k0 ≤ 1048576) (hk1 : k1 ≤ 1048576) (hk2 : k2 ≤ 1048576) :
    Calls Try.prog 35 #[.pointer (some ⟨B, 0, none⟩), .agg #[.slice a0 k0 c0, .slice a1 k1 c1, .slice a2 k2 c2]] w fun e w' => e = .returned (.int .i64 (ptE n k k0 X0 k1 X1 k2 X2)) ∧ Below w.heap.size w w' := by
  have C0 := hid (fun W (hW : Below w.heap.size w W) => pNumbers_c (w := W) (cap := c0) (z := n) (h0.below hW) hk0)
  have C1 := hid (fun W (hW : Below w.heap.size w W) => pNumbers_c (w := W) (cap := c1) (z := k) (h1.below hW) hk1)
  have C2 := hid (fun W (hW : Below w.heap.size w W) => pNumbers_c (w := W) (cap := c2) (z := n) (h2.below hW) hk2)
  clear h0 h1 h2
  unfold ptE
  obtain ⟨e0, he0⟩ : ∃ e, pnE k0 X0 n = e := ⟨_, rfl⟩
  rw [he0] at C0 ⊢
  clear he0
  obtain ⟨e1, he1⟩ : ∃ e, pnE k1 X1 k = e := ⟨_, rfl⟩
  rw [he1] at C1 ⊢
  clear he1
  obtain ⟨e2, he2⟩ : ∃ e, pnE k2 X2 n = e := ⟨_, rfl⟩
  rw [he2] at C2 ⊢
  clear he2
  have hb := below_alloc (Below.refl w.heap.size w) (.cells #[.slice a0 k0 c0, .slice a1 k1 c1, .slice a2 k2 c2] 32)
  have B1 := bk_new w [.slice a0 k0 c0, .slice a1 k1 c1, .slice a2 k2 c2] 32
  have hs1 := hs.below hb
  replace B1 : Bk (w.alloc (.cells #[.slice a0 k0 c0, .slice a1 k1 c1, .slice a2 k2 c2] 32)) w.heap.size [.slice a0 k0 c0, .slice a1 k1 c1, .slice a2 k2 c2] 32 := B1
  clear hs
  go_enter Try.func35, Try.ntmps35
  go_upto_region 1 with fail
  generalize w.alloc (.cells #[.slice a0 k0 c0, .slice a1 k1 c1, .slice a2 k2 c2] 32) = w1 at *
  have hbd := Below.drew (Below.refl w1.heap.size w1)
  replace B1 := B1.below hbd; replace hs1 := hs1.below hbd
  have HW := hid (hb.trans (hbd.mono hb.size))
  clear hbd hb
  have r0 := B1.cell (j := 0) rfl
  have r1 := B1.cell (j := 1) rfl
  have r2 := B1.cell (j := 2) rfl
  have r3 := hs1.c2
  have r4 := hs1.c3
  clear B1 hs1
  refine wp_region_held_drew (S := (fun w' => w'.cell? ⟨w.heap.size, 0, none⟩ = some (.slice a0 k0 c0) ∧ w'.cell? ⟨w.heap.size, 1, none⟩ = some (.slice a1 k1 c1) ∧ w'.cell? ⟨w.heap.size, 2, none⟩ = some (.slice a2 k2 c2) ∧ w'.cell? ⟨B, 2, none⟩ = some (.int .i64 n) ∧ w'.cell? ⟨B, 3, none⟩ = some (.int .i64 k))) (by kernel_rfl) ?_ (fun hHeld => ?_)
  · exact ⟨r0, r1, r2, r3, r4⟩
  generalize w1.drew = wd at *
  refine wpAnyH_take (i := 0) (v := ?_) rfl (by kernel_rfl) (by kernel_rfl) (by kernel_rfl) (fun _ _ _ h => h) (Or.inl ⟨by rfl, ?_⟩) (by assumption) ?_
  rotate_left
  (focus (intro w0 hSw; (try dsimp only at hSw); go_simp <;> with_reducible rfl))
  simp only [List.getElem_toArray, List.getElem_cons_zero, Act.put, List.setIfInBounds_toArray, List.set_cons_zero, List.set_cons_succ]
  refine wpAnyH_take (i := 1) (v := ?_) rfl (by kernel_rfl) (by kernel_rfl) (by kernel_rfl) (fun _ _ _ h => h) (Or.inl ⟨by rfl, ?_⟩) (by assumption) ?_
  rotate_left
  (focus (intro w0 hSw; (try dsimp only at hSw); go_simp <;> with_reducible rfl))
  simp only [List.getElem_toArray, List.getElem_cons_succ, List.getElem_cons_zero, Act.put, List.setIfInBounds_toArray, List.set_cons_zero, List.set_cons_succ]
  refine wpAnyH_take (i := 2) (v := ?_) rfl (by kernel_rfl) (by kernel_rfl) (by kernel_rfl) (fun _ _ _ h => h) (Or.inl ⟨by rfl, ?_⟩) (by assumption) ?_
  rotate_left
  (focus (intro w0 hSw; (try dsimp only at hSw); go_simp <;> with_reducible rfl))
  simp only [List.getElem_toArray, List.getElem_cons_succ, List.getElem_cons_zero, Act.put, List.setIfInBounds_toArray, List.set_cons_zero, List.set_cons_succ]
  refine wpAnyH_take (i := 3) (v := ?_) rfl (by kernel_rfl) (by kernel_rfl) (by kernel_rfl) (fun _ _ _ h => h) (Or.inl ⟨by rfl, ?_⟩) (by assumption) ?_
  rotate_left
  (focus (intro w0 hSw; (try dsimp only at hSw); go_simp <;> with_reducible rfl))
  simp only [List.getElem_toArray, List.getElem_cons_succ, List.getElem_cons_zero, Act.put, List.setIfInBounds_toArray, List.set_cons_zero, List.set_cons_succ]
  refine wpAnyH_take (i := 4) (v := ?_) rfl (by kernel_rfl) (by kernel_rfl) (by kernel_rfl) (fun _ _ _ h => h) (Or.inl ⟨by rfl, ?_⟩) (by assumption) ?_
  rotate_left
  (focus (intro w0 hSw; (try dsimp only at hSw); go_simp <;> with_reducible rfl))
  simp only [List.getElem_toArray, List.getElem_cons_succ, List.getElem_cons_zero, Act.put, List.setIfInBounds_toArray, List.set_cons_zero, List.set_cons_succ]
  refine wpAnyH_take (i := 5) (v := ?_) rfl (by kernel_rfl) (by kernel_rfl) (by kernel_rfl) (fun _ _ _ h => h) (Or.inl ⟨by rfl, ?_⟩) (by assumption) ?_
  rotate_left
  (focus (intro w0 hSw; (try dsimp only at hSw); go_simp <;> with_reducible rfl))
  simp only [List.getElem_toArray, List.getElem_cons_succ, List.getElem_cons_zero, Act.put, List.setIfInBounds_toArray, List.set_cons_zero, List.set_cons_succ]
  refine wpAnyH_take (i := 6) (v := ?_) rfl (by kernel_rfl) (by kernel_rfl) (by kernel_rfl) (fun _ _ _ h => h) (Or.inl ⟨by rfl, ?_⟩) (by assumption) ?_
  rotate_left
  (focus (intro w0 hSw; (try dsimp only at hSw); go_simp <;> with_reducible rfl))
  simp only [List.getElem_toArray, List.getElem_cons_succ, List.getElem_cons_zero, Act.put, List.setIfInBounds_toArray, List.set_cons_zero, List.set_cons_succ]
  refine wpAnyH_take (i := 8) (v := ?_) rfl (by kernel_rfl) (by kernel_rfl) (by kernel_rfl) (fun _ _ _ h => h) (Or.inl ⟨by rfl, ?_⟩) (by assumption) ?_
  rotate_left
  (focus (intro w0 hSw; (try dsimp only at hSw); go_simp <;> with_reducible rfl))
  simp only [List.getElem_toArray, List.getElem_cons_succ, List.getElem_cons_zero, Act.put, List.setIfInBounds_toArray, List.set_cons_zero, List.set_cons_succ]
  refine wpAnyH_take (i := 9) (v := ?_) rfl (by kernel_rfl) (by kernel_rfl) (by kernel_rfl) (fun _ _ _ h => h) (Or.inl ⟨by rfl, ?_⟩) (by assumption) ?_
  rotate_left
  (focus (intro w0 hSw; (try dsimp only at hSw); go_simp <;> with_reducible rfl))
  simp only [List.getElem_toArray, List.getElem_cons_succ, List.getElem_cons_zero, Act.put, List.setIfInBounds_toArray, List.set_cons_zero, List.set_cons_succ]
  refine wpAnyH_take (i := 10) (v := ?_) rfl (by kernel_rfl) (by kernel_rfl) (by kernel_rfl) (fun _ _ _ h => h) (Or.inl ⟨by rfl, ?_⟩) (by assumption) ?_
  rotate_left
  (focus (intro w0 hSw; (try dsimp only at hSw); go_simp <;> with_reducible rfl))
  simp only [List.getElem_toArray, List.getElem_cons_succ, List.getElem_cons_zero, Act.put, List.setIfInBounds_toArray, List.set_cons_zero, List.set_cons_succ]
  refine wpAnyH_take (i := 11) (v := ?_) rfl (by kernel_rfl) (by kernel_rfl) (by kernel_rfl) (fun _ _ _ h => h) (Or.inl ⟨by rfl, ?_⟩) (by assumption) ?_
  rotate_left
  (focus (intro w0 hSw; (try dsimp only at hSw); go_simp <;> with_reducible rfl))
  simp only [List.getElem_toArray, List.getElem_cons_succ, List.getElem_cons_zero, Act.put, List.setIfInBounds_toArray, List.set_cons_zero, List.set_cons_succ]
  refine wpAnyH_take (i := 12) (v := ?_) rfl (by kernel_rfl) (by kernel_rfl) (by kernel_rfl) (fun _ _ _ h => h) (Or.inl ⟨by rfl, ?_⟩) (by assumption) ?_
  rotate_left
  (focus (intro w0 hSw; (try dsimp only at hSw); go_simp <;> with_reducible rfl))
  simp only [List.getElem_toArray, List.getElem_cons_succ, List.getElem_cons_zero, Act.put, List.setIfInBounds_toArray, List.set_cons_zero, List.set_cons_succ]
  refine wpAnyH_take (i := 13) (v := ?_) rfl (by kernel_rfl) (by kernel_rfl) (by kernel_rfl) (fun _ _ _ h => h) (Or.inl ⟨by rfl, ?_⟩) (by assumption) ?_
  rotate_left
  (focus (intro w0 hSw; (try dsimp only at hSw); go_simp <;> with_reducible rfl))
  simp only [List.getElem_toArray, List.getElem_cons_succ, List.getElem_cons_zero, Act.put, List.setIfInBounds_toArray, List.set_cons_zero, List.set_cons_succ]
  refine wpAnyH_take (i := 14) (v := ?_) rfl (by kernel_rfl) (by kernel_rfl) (by kernel_rfl) (fun _ _ _ h => h) (Or.inl ⟨by rfl, ?_⟩) (by assumption) ?_
  rotate_left
  (focus (intro w0 hSw; (try dsimp only at hSw); go_simp <;> with_reducible rfl))
  simp only [List.getElem_toArray, List.getElem_cons_succ, List.getElem_cons_zero, Act.put, List.setIfInBounds_toArray, List.set_cons_zero, List.set_cons_succ]
  refine wpAnyH_take (i := 16) (v := ?_) rfl (by kernel_rfl) (by kernel_rfl) (by kernel_rfl) (fun _ _ _ h => h) (Or.inl ⟨by rfl, ?_⟩) (by assumption) ?_
  rotate_left
  (focus (intro w0 hSw; (try dsimp only at hSw); go_simp <;> with_reducible rfl))
  simp only [List.getElem_toArray, List.getElem_cons_succ, List.getElem_cons_zero, Act.put, List.setIfInBounds_toArray, List.set_cons_zero, List.set_cons_succ]
  refine wpAnyH_take (i := 17) (v := ?_) rfl (by kernel_rfl) (by kernel_rfl) (by kernel_rfl) (fun _ _ _ h => h) (Or.inl ⟨by rfl, ?_⟩) (by assumption) ?_
  rotate_left
  (focus (intro w0 hSw; (try dsimp only at hSw); go_simp <;> with_reducible rfl))
  simp only [List.getElem_toArray, List.getElem_cons_succ, List.getElem_cons_zero, Act.put, List.setIfInBounds_toArray, List.set_cons_zero, List.set_cons_succ]
  refine wpAnyH_take (i := 18) (v := ?_) rfl (by kernel_rfl) (by kernel_rfl) (by kernel_rfl) (fun _ _ _ h => h) (Or.inl ⟨by rfl, ?_⟩) (by assumption) ?_
  rotate_left
  (focus (intro w0 hSw; (try dsimp only at hSw); go_simp <;> with_reducible rfl))
  simp only [List.getElem_toArray, List.getElem_cons_succ, List.getElem_cons_zero, Act.put, List.setIfInBounds_toArray, List.set_cons_zero, List.set_cons_succ]
  refine wpAnyH_take (i := 19) (v := ?_) rfl (by kernel_rfl) (by kernel_rfl) (by kernel_rfl) (fun _ _ _ h => h) (Or.inl ⟨by rfl, ?_⟩) (by assumption) ?_
  rotate_left
  (focus (intro w0 hSw; (try dsimp only at hSw); go_simp <;> with_reducible rfl))
  simp only [List.getElem_toArray, List.getElem_cons_succ, List.getElem_cons_zero, Act.put, List.setIfInBounds_toArray, List.set_cons_zero, List.set_cons_succ]
  refine wpAnyH_take (i := 20) (v := ?_) rfl (by kernel_rfl) (by kernel_rfl) (by kernel_rfl) (fun _ _ _ h => h) (Or.inl ⟨by rfl, ?_⟩) (by assumption) ?_
  rotate_left
  (focus (intro w0 hSw; (try dsimp only at hSw); go_simp <;> with_reducible rfl))
  simp only [List.getElem_toArray, List.getElem_cons_succ, List.getElem_cons_zero, Act.put, List.setIfInBounds_toArray, List.set_cons_zero, List.set_cons_succ]
  refine wpAnyH_take (i := 21) (v := ?_) rfl (by kernel_rfl) (by kernel_rfl) (by kernel_rfl) (fun _ _ _ h => h) (Or.inl ⟨by rfl, ?_⟩) (by assumption) ?_
  rotate_left
  (focus (intro w0 hSw; (try dsimp only at hSw); go_simp <;> with_reducible rfl))
  simp only [List.getElem_toArray, List.getElem_cons_succ, List.getElem_cons_zero, Act.put, List.setIfInBounds_toArray, List.set_cons_zero, List.set_cons_succ]
  refine wpAnyH_take (i := 22) (v := ?_) rfl (by kernel_rfl) (by kernel_rfl) (by kernel_rfl) (fun _ _ _ h => h) (Or.inl ⟨by rfl, ?_⟩) (by assumption) ?_
  rotate_left
  (focus (intro w0 hSw; (try dsimp only at hSw); go_simp <;> with_reducible rfl))
  simp only [List.getElem_toArray, List.getElem_cons_succ, List.getElem_cons_zero, Act.put, List.setIfInBounds_toArray, List.set_cons_zero, List.set_cons_succ]
  refine wpAnyH_ready (rs := [7]) (by kernel_rfl) (by simp) ?_
  refine AllReadyH.cons (o := _) rfl (fun K hK => ?_) ?_
  rotate_left
  exact AllReadyH.nil
  go_simp
  go_at_call 43
  refine (C0.out _ HW.out).mono ?_
  rintro e w2 ⟨rfl, hb0⟩
  have HW0 := hid (HW.out.trans (hb0.mono HW.out.size))
  (try go_wp2_with fail)
  refine hK.out _ _ ?_ (fun hH0 => ?_)
  · ((try dsimp only); (refine ⟨?_, ?_, ?_, ?_, ?_⟩ <;> repeat (with_reducible first | assumption | refine kCb (by assumption) ?_)))
  clear hK K
  try simp only [Act.put, List.setIfInBounds_toArray, List.set_cons_zero, List.set_cons_succ]
  refine wpAnyH_ready (rs := [15]) (by kernel_rfl) (by simp) ?_
  refine AllReadyH.cons (o := _) rfl (fun K hK => ?_) ?_
  rotate_left
  exact AllReadyH.nil
  go_simp
  go_at_call 43
  refine (C1.out _ HW0.out).mono ?_
  rintro e w3 ⟨rfl, hb1⟩
  have HW1 := hid (HW0.out.trans (hb1.mono HW0.out.size))
  (try go_wp2_with fail)
  refine hK.out _ _ ?_ (fun hH1 => ?_)
  · ((try dsimp only); (refine ⟨?_, ?_, ?_, ?_, ?_⟩ <;> repeat (with_reducible first | assumption | refine kCb (by assumption) ?_)))
  clear hK K
  try simp only [Act.put, List.setIfInBounds_toArray, List.set_cons_zero, List.set_cons_succ]
  refine wpAnyH_ready (rs := [23]) (by kernel_rfl) (by simp) ?_
  refine AllReadyH.cons (o := _) rfl (fun K hK => ?_) ?_
  rotate_left
  exact AllReadyH.nil
  go_simp
  go_at_call 43
  refine (C2.out _ HW1.out).mono ?_
  rintro e w4 ⟨rfl, hb2⟩
  have HW2 := hid (HW1.out.trans (hb2.mono HW1.out.size))
  (try go_wp2_with fail)
  refine hK.out _ _ ?_ (fun hH2 => ?_)
  · ((try dsimp only); (refine ⟨?_, ?_, ?_, ?_, ?_⟩ <;> repeat (with_reducible first | assumption | refine kCb (by assumption) ?_)))
  clear hK K
  try simp only [Act.put, List.setIfInBounds_toArray, List.set_cons_zero, List.set_cons_succ]
  refine wpAnyH_ready (rs := [24]) (by kernel_rfl) (by simp) ?_
  refine AllReadyH.cons (o := _) rfl (fun K hK => ?_) ?_
  rotate_left
  exact AllReadyH.nil
  go_simp
  have hbA := below_alloc (Below.refl w4.heap.size w4) (.cells #[.int .i64 e0, .int .i64 e1, .int .i64 e2] 24)
  have HEl := hid (tri_el (w := w4) (e0 := e0) (e1 := e1) (e2 := e2) (t := 24))
  have HWA := hid (HW2.out.trans (hbA.mono HW2.out.size))
  obtain ⟨gA, hgA⟩ : ∃ z, w4.heap.size = z := ⟨_, rfl⟩
  rw [hgA] at HEl ⊢
  generalize hwA : w4.alloc (.cells #[.int .i64 e0, .int .i64 e1, .int .i64 e2] 24) = wA at *
  clear hwA hgA
  refine hK.out _ _ ?_ (fun hHA => ?_)
  · ((try dsimp only); (refine ⟨?_, ?_, ?_, ?_, ?_⟩ <;> repeat (with_reducible first | assumption | refine kCb (by assumption) ?_)))
  clear hK K
  try simp only [Act.put, List.setIfInBounds_toArray, List.set_cons_zero, List.set_cons_succ]
  refine wpAnyH_ready (rs := [25]) (by kernel_rfl) (by simp) ?_
  refine AllReadyH.cons (o := _) rfl (fun K hK => ?_) ?_
  rotate_left
  exact AllReadyH.nil
  go_simp
  go_at_call 42
  refine (least_c HEl.out (by decide)).mono ?_
  rintro e w9 ⟨rfl, rfl⟩
  (try go_wp2_with fail)
  refine hK.out _ _ ?_ (fun hHB => ?_)
  · exact hHA
  clear hK K
  try simp only [Act.put, List.setIfInBounds_toArray, List.set_cons_zero, List.set_cons_succ]
  refine wpAnyH_take (i := 26) (v := ?_) rfl (by kernel_rfl) (by kernel_rfl) (by kernel_rfl) (fun _ _ _ h => h) (Or.inl ⟨by rfl, ?_⟩) (by assumption) ?_
  rotate_left
  (focus (intro w0 hSw; (try dsimp only at hSw); go_simp <;> with_reducible rfl))
  simp only [List.getElem_toArray, List.getElem_cons_succ, List.getElem_cons_zero, Act.put, List.setIfInBounds_toArray, List.set_cons_zero, List.set_cons_succ]
  refine wpAnyH_done (by kernel_rfl) ?_ _
  go_wp2
  go_ret
  exact ⟨rfl, HWA.out⟩
/-- What Dual answers: the point itself, copied, or its error. -/
def DualAns (w w' : World) (e : Ending) (n k : Int) (k0 : Nat) (X0 : Nat → Nm) (k1 : Nat) (X1 : Nat → Nm) (k2 : Nat) (X2 : Nat → Nm) : Prop := Below w.heap.size w w' ∧
  ((ptE n k k0 X0 k1 X1 k2 X2 ≠ 0 ∧ e = .returned (.tuple #[.agg #[.slice none 0 0, .slice none 0 0, .slice none 0 0], .int .i64 (ptE n k k0 X0 k1 X1 k2 X2)])) ∨ (ptE n k k0 X0 k1 X1 k2 X2 = 0 ∧ ∃ g0 Y0 g1 Y1 g2 Y2, e = .returned (.tuple #[.agg #[.slice (some ⟨g0, 0, none⟩) k0 k0, .slice (some ⟨g1, 0, none⟩) k1 k1, .slice (some ⟨g2, 0, none⟩) k2 k2], .int .i64 0]) ∧ Cp w' w.heap.size g0 k0 k0 X0 Y0 ∧ Cp w' w.heap.size g1 k1 k1 X1 Y1 ∧ Cp w' w.heap.size g2 k2 k2 X2 Y2))
set_option maxRecDepth 100000 in
set_option maxHeartbeats 4000000 in
theorem sdual_c {w : World} {B : Nat} {n k : Int} {a0 a1 a2 : Option Addr} {k0 c0 k1 c1 k2 c2 : Nat} {X0 X1 X2 : Nat → Nm} (hs : Sk w B n k) (h0 : Rl w a0 k0 X0) (h1 : Rl w a1 k1 X1) (h2 : Rl w a2 k2 X2) (hk0 : k0 ≤ 1048576) (hk1 : k1 ≤ 1048576) (hk2 : k2 ≤ 1048576) :
    Calls Try.prog 18 #[.pointer (some ⟨B, 0, none⟩), .agg #[.slice a0 k0 c0, .slice a1 k1 c1, .slice a2 k2 c2]] w fun e w' => DualAns w w' e n k k0 X0 k1 X1 k2 X2 := by
  have CC := hid (fun W (hW : Below w.heap.size w W) => checkPoint_c (w := W) (c0 := c0) (c1 := c1) (c2 := c2) (hs.below hW) (h0.below hW) (h1.below hW) (h2.below hW) hk0 hk1 hk2)
  have CP := hid (fun W (hW : Below w.heap.size w W) => cpPoint_c (w := W) (c0 := c0) (c1 := c1) (c2 := c2) (h0.below hW) (h1.below hW) (h2.below hW) hk0 hk1 hk2)
  have HS := hid hs
  clear h0 h1 h2 hs
  obtain ⟨er, her⟩ : ∃ e, ptE n k k0 X0 k1 X1 k2 X2 = e := ⟨_, rfl⟩
  rw [her] at CC
  have HE := hid her
  clear her
  have hb := below_alloc (below_alloc (Below.refl w.heap.size w) (.cells #[.slice a0 k0 c0, .slice a1 k1 c1, .slice a2 k2 c2] 32)) (.cells #[.slice none 0 0, .slice none 0 0, .slice none 0 0] 32)
  have B1 : Bk ((w.alloc (.cells #[.slice a0 k0 c0, .slice a1 k1 c1, .slice a2 k2 c2] 32)).alloc (.cells #[.slice none 0 0, .slice none 0 0, .slice none 0 0] 32)) w.heap.size [.slice a0 k0 c0, .slice a1 k1 c1, .slice a2 k2 c2] 32 := (bk_new w [.slice a0 k0 c0, .slice a1 k1 c1, .slice a2 k2 c2] 32).below (below_alloc (Below.refl _ _) (.cells #[.slice none 0 0, .slice none 0 0, .slice none 0 0] 32))
  have B2 : Bk ((w.alloc (.cells #[.slice a0 k0 c0, .slice a1 k1 c1, .slice a2 k2 c2] 32)).alloc (.cells #[.slice none 0 0, .slice none 0 0, .slice none 0 0] 32)) (w.heap.size + 1) [.slice none 0 0, .slice none 0 0, .slice none 0 0] 32 := by
    have := bk_new (w.alloc (.cells #[.slice a0 k0 c0, .slice a1 k1 c1, .slice a2 k2 c2] 32)) [.slice none 0 0, .slice none 0 0, .slice none 0 0] 32
    rw [size_alloc1] at this
    exact this
  have hsz : ((w.alloc (.cells #[.slice a0 k0 c0, .slice a1 k1 c1, .slice a2 k2 c2] 32)).alloc (.cells #[.slice none 0 0, .slice none 0 0, .slice none 0 0] 32)).heap.size = w.heap.size + 1 + 1 := by simp
  go_enter Try.func18, Try.ntmps18
  go_upto_region 3 with fail
  generalize (w.alloc (.cells #[.slice a0 k0 c0, .slice a1 k1 c1, .slice a2 k2 c2] 32)).alloc (.cells #[.slice none 0 0, .slice none 0 0, .slice none 0 0] 32) = w2 at *
  have r0 := B1.cell (j := 0) rfl
  have r1 := B1.cell (j := 1) rfl
  have r2 := B1.cell (j := 2) rfl
  have HB := hid hb
  have HB1 := hid B1
  have HB2 := hid B2
  have HSZ := hid hsz
  clear hb B1 B2 hsz
  go_wp2_with fail
  refine (CC.out _ HB.out).mono ?_
  rintro e w3 ⟨rfl, hb3⟩
  replace HB1 := hid (HB1.out.below hb3); replace HB2 := hid (HB2.out.below hb3); have HB3 := hid (HB.out.trans (hb3.mono HB.out.size))
  clear r0 r1 r2
  have r0 := HB1.out.cell (j := 0) rfl
  have r1 := HB1.out.cell (j := 1) rfl
  have r2 := HB1.out.cell (j := 2) rfl
  have l0 := HB2.out.cell (j := 0) rfl
  have l1 := HB2.out.cell (j := 1) rfl
  have l2 := HB2.out.cell (j := 2) rfl
  have ff := HB2.out.frozen
  have h3s := hb3.size
  clear hb3
  by_cases h0 : er = 0
  · subst h0
    go_wp2_with fail
    refine (CP.out _ HB3.out).mono ?_
    rintro e w4 ⟨g0, Y0, g1, Y1, g2, Y2, rfl, hb4, HC⟩
    have HB4 := hid (HB3.out.trans (hb4.mono HB3.out.size)); have HD2 := hid (HB2.out.below hb4); have hq := hb4.size
    clear hb4 l0 l1 l2 ff r0 r1 r2
    go_wp2_with fail
    refine (backP_c (HS.out.below HB4.out) _ _ _ _ _ _ _ _ _ _).mono ?_
    rintro e w5 ⟨rfl, hb5⟩
    have HB5 := hid (HB4.out.trans (hb5.mono HB4.out.size)); replace HD2 := hid (HD2.out.below hb5)
    have hc5 := HC.out
    obtain ⟨q0, q1, q2⟩ := hc5
    replace q0 := q0.below hb5; replace q1 := q1.below hb5; replace q2 := q2.below hb5
    have hsz := HSZ.out
    obtain ⟨hx1, hx2, hx3⟩ := st_new [.slice (some ⟨g0, 0, none⟩) k0 k0, .slice (some ⟨g1, 0, none⟩) k1 k1, .slice (some ⟨g2, 0, none⟩) k2 k2] HD2.out (nou_list (fun u hu q => by simp at hu; first | (subst hu; simp) | (rcases hu with rfl | rfl <;> simp) | (rcases hu with rfl | rfl | rfl <;> simp))) HB5.out (Nat.le_succ _)
    have l0 := HD2.out.cell (j := 0) rfl
    have l1 := HD2.out.cell (j := 1) rfl
    have l2 := HD2.out.cell (j := 2) rfl
    have ff := HD2.out.frozen
    have HX : Hid (DualAns w (stl (w.heap.size + 1) 0 [.slice (some ⟨g0, 0, none⟩) k0 k0, .slice (some ⟨g1, 0, none⟩) k1 k1, .slice (some ⟨g2, 0, none⟩) k2 k2] w5) (.returned (.tuple #[.agg #[.slice (some ⟨g0, 0, none⟩) k0 k0, .slice (some ⟨g1, 0, none⟩) k1 k1, .slice (some ⟨g2, 0, none⟩) k2 k2], .int .i64 0])) n k k0 X0 k1 X1 k2 X2) := ⟨hx1, .inr ⟨HE.out, g0, Y0, g1, Y1, g2, Y2, rfl, (q0.low HB3.out.size).kp hx2 (hx3 _ (by have := q0.ge; omega)), (q1.low HB3.out.size).kp hx2 (hx3 _ (by have := q1.ge; omega)), (q2.low HB3.out.size).kp hx2 (hx3 _ (by have := q2.ge; omega))⟩⟩
    clear q0 q1 q2 hx1 hx2 hx3 hb5 HC HD2 HB5 HB4 CC CP HSZ HE hsz h3s hq HB HB1 HB2 HB3 HS
    go_wp2
    exact bodyPost_ret (v := .tuple #[.agg #[.slice (some ⟨g0, 0, none⟩) k0 k0, .slice (some ⟨g1, 0, none⟩) k1 k1, .slice (some ⟨g2, 0, none⟩) k2 k2], .int .i64 0]) (by simp [results, Try.results18, go_sem, l0, l1, l2]) rfl HX.out
  · have h1 : (er != 0) = true := by simpa using h0
    obtain ⟨hx1, hx2, hx3⟩ := st_new [.slice none 0 0, .slice none 0 0, .slice none 0 0] HB2.out (nou_list (fun u hu q => by simp at hu; first | (subst hu; simp) | (rcases hu with rfl | rfl <;> simp) | (rcases hu with rfl | rfl | rfl <;> simp))) HB3.out (Nat.le_succ _)
    have HX : Hid (DualAns w (stl (w.heap.size + 1) 0 [.slice none 0 0, .slice none 0 0, .slice none 0 0] w3) (.returned (.tuple #[.agg #[.slice none 0 0, .slice none 0 0, .slice none 0 0], .int .i64 er])) n k k0 X0 k1 X1 k2 X2) := ⟨hx1, .inl ⟨by rw [HE.out]; exact h0, by rw [HE.out]⟩⟩
    clear hx1 hx2 hx3 CC CP HSZ HE HB HB1 HB2 HB3 HS h3s
    go_wp2
    exact bodyPost_ret (v := .tuple #[.agg #[.slice none 0 0, .slice none 0 0, .slice none 0 0], .int .i64 er]) (by simp [results, Try.results18, go_sem, l0, l1, l2]) rfl HX.out
end Go.Proofs.Ytllpllebmknmpaa
namespace Go.Proofs.Ytllpllebmknmpaa
open Go.RowKit

set_option maxRecDepth 100000 in
set_option maxHeartbeats 4000000 in
theorem samesEq_c {w : World} {L L' : Nat} {ao bo : Option Addr} {k ca cb : Nat} {p : List Rat} (ha : Rf L w ao p) (hb : Rf L' w bo p) (hk : p.length = k) (hk2 : k ≤ 1048576) (h1 : L ≤ 1048576) (h2 : L' ≤ 1048576) :
    Calls Try.prog 16 #[.slice ao k ca, .slice bo k cb] w fun e w' => e = .returned (.bool true) ∧ Below w.heap.size w w' := by
  have HA := hid ha; have HB := hid hb
  have hkk : (((k : Nat) : Int) != ((k : Nat) : Int)) = false := by simp
  clear ha hb
  go_enter Try.func16, Try.ntmps16
  go_wp2_with fail
  go_loopw [13] (fun t wr => ∃ (i : Nat), i ≤ k ∧ t = .int .i64 i ∧ Hid (Below w.heap.size w wr)) (fun t _ => k - (intOf t).toNat)
  case atStart => exact ⟨0, by omega, rfl, Below.refl _ _⟩
  case round =>
    obtain ⟨i, hi, rfl, HW⟩ := hrel
    by_cases hlt : i < k
    · obtain ⟨q, hq⟩ : ∃ q, p[i]? = some q := ⟨_, List.getElem?_eq_getElem (by omega)⟩
      obtain ⟨b, o, ⟨ts, tx, tn, tc, tf, ty, tm, td, tg⟩, rfl, hc, hr⟩ := (HA.out.below HW.out) i q hq
      obtain ⟨b', o', ⟨ss, sx, sn, sc, sf, sy, sm, sd, sg⟩, rfl, hc', hr'⟩ := (HB.out.below HW.out) i q hq
      obtain ⟨x0, x1, x2⟩ := hc
      obtain ⟨p0, p1, p2⟩ := hc'
      replace x0 : wr.cell? ⟨b, o + i * 3, none⟩ = some (.bool ts) := x0
      replace x1 : wr.cell? ⟨b, o + i * 3 + 1, none⟩ = some (.slice tx tn tc) := x1
      replace x2 : wr.cell? ⟨b, o + i * 3 + 2, none⟩ = some (.slice ty tm td) := x2
      replace p0 : wr.cell? ⟨b', o' + i * 3, none⟩ = some (.bool ss) := p0
      replace p1 : wr.cell? ⟨b', o' + i * 3 + 1, none⟩ = some (.slice sx sn sc) := p1
      replace p2 : wr.cell? ⟨b', o' + i * 3 + 2, none⟩ = some (.slice sy sm sd) := p2
      have CS : Hid (∀ W, Below wr.heap.size wr W → Calls Try.prog 30 #[.agg #[.bool ts, .slice tx tn tc, .slice ty tm td], .agg #[.bool ss, .slice sx sn sc, .slice sy sm sd]] W fun e w' => e = .returned (.bool true) ∧ Below W.heap.size W w') := fun W hW =>
        rSameEq_c (Rn.below hr hW) (Rn.below hr' hW) h1 h2
      have i2 : ((i : Nat) : Int) < ((k : Nat) : Int) := by omega
      clear hr hr' hq
      go_upto_region 6 with fail
      go_region_held3 (fun w' => w'.cell? ⟨b, o + i * 3, none⟩ = some (.bool ts) ∧ w'.cell? ⟨b, o + i * 3 + 1, none⟩ = some (.slice tx tn tc) ∧ w'.cell? ⟨b, o + i * 3 + 2, none⟩ = some (.slice ty tm td) ∧ w'.cell? ⟨b', o' + i * 3, none⟩ = some (.bool ss) ∧ w'.cell? ⟨b', o' + i * 3 + 1, none⟩ = some (.slice sx sn sc) ∧ w'.cell? ⟨b', o' + i * 3 + 2, none⟩ = some (.slice sy sm sd))
        (refine ⟨?_, ?_, ?_, ?_, ?_, ?_⟩ <;> repeat (with_reducible first | assumption | refine kCd ?_ | refine kCb (by assumption) ?_))
        ((go_at_call 30; with_reducible refine (CS.out _ (by repeat (with_reducible first | assumption | exact Below.refl _ _ | refine kBdn ?_ | refine Below.drew ?_))).mono ?_; rintro e w5 ⟨rfl, hb5⟩))
      all_goals
        (have HW5 : Hid (Below w.heap.size w w5) := hid (HW.out.trans (Below.mono (show Below wr.heap.size wr w5 by repeat (with_reducible first | assumption | exact Below.refl _ _ | refine kBdn ?_ | refine Below.drew ?_ | refine kBb (by assumption) ?_)) HW.out.size))
         clear x0 x1 x2 p0 p1 p2 CS hb5
         go_wp2
         go_roundw
         case rel => exact ⟨i + 1, by omega, by go_num, (by first | exact HW5.out | exact HW5.out.drew | exact below_drewN HW5.out _)⟩
         case measure => simp [intOf]; omega)
    · have i2 : ¬ (((i : Nat) : Int) < ((k : Nat) : Int)) := by omega
      go_wp2
      go_ret
      exact ⟨rfl, HW.out⟩

end Go.Proofs.Ytllpllebmknmpaa
namespace Go.Proofs.Ytllpllebmknmpaa
open Go.RowKit

theorem rf_nil (L : Nat) (w : World) (ao : Option Addr) : Rf L w ao [] := fun j q hj => by simp at hj
theorem el_nil (w : World) (ao : Option Addr) (E : Nat → Int) : El w ao 0 E := fun j hj => by omega
theorem El.below {w w' ao k E} (h : El w ao k E) (hb : Below w.heap.size w w') : El w' ao k E := fun j hj => by
  obtain ⟨b, o, e, h1⟩ := h j hj
  exact ⟨b, o, e, kCb hb h1⟩
set_option maxRecDepth 100000 in
set_option maxHeartbeats 4000000 in
theorem samePt_c {w : World} {L L2 : Nat} {a0 b0 a1 b1 a2 b2 : Option Addr} {k0 c0 d0 k1 c1 d1 k2 c2 d2 : Nat} {p0 p1 p2 : List Rat} (ha0 : Rf L w a0 p0) (hb0 : Rf L2 w b0 p0) (hk0 : p0.length = k0) (hl0 : k0 ≤ 1048576) (ha1 : Rf L w a1 p1) (hb1 : Rf L2 w b1 p1) (hk1 : p1.length = k1) (hl1 : k1 ≤ 1048576) (ha2 : Rf L w a2 p2) (hb2 : Rf L2 w b2 p2) (hk2 : p2.length = k2) (hl2 : k2 ≤ 1048576) (hL : L ≤ 1048576) (hL2 : L2 ≤ 1048576) :
    Calls Try.prog 21 #[.agg #[.slice a0 k0 c0, .slice a1 k1 c1, .slice a2 k2 c2], .agg #[.slice b0 k0 d0, .slice b1 k1 d1, .slice b2 k2 d2]] w fun e w' => e = .returned (.bool true) ∧ Below w.heap.size w w' := by
  have C0 := hid (fun W (hW : Below w.heap.size w W) => samesEq_c (w := W) (ca := c0) (cb := d0) (ha0.below hW) (hb0.below hW) hk0 hl0 hL hL2)
  have C1 := hid (fun W (hW : Below w.heap.size w W) => samesEq_c (w := W) (ca := c1) (cb := d1) (ha1.below hW) (hb1.below hW) hk1 hl1 hL hL2)
  have C2 := hid (fun W (hW : Below w.heap.size w W) => samesEq_c (w := W) (ca := c2) (cb := d2) (ha2.below hW) (hb2.below hW) hk2 hl2 hL hL2)
  clear ha0 hb0 ha1 hb1 ha2 hb2
  have hb := below_alloc (below_alloc (Below.refl w.heap.size w) (.cells #[.slice a0 k0 c0, .slice a1 k1 c1, .slice a2 k2 c2] 32)) (.cells #[.slice b0 k0 d0, .slice b1 k1 d1, .slice b2 k2 d2] 32)
  have B1 : Bk ((w.alloc (.cells #[.slice a0 k0 c0, .slice a1 k1 c1, .slice a2 k2 c2] 32)).alloc (.cells #[.slice b0 k0 d0, .slice b1 k1 d1, .slice b2 k2 d2] 32)) w.heap.size [.slice a0 k0 c0, .slice a1 k1 c1, .slice a2 k2 c2] 32 := (bk_new w [.slice a0 k0 c0, .slice a1 k1 c1, .slice a2 k2 c2] 32).below (below_alloc (Below.refl _ _) (.cells #[.slice b0 k0 d0, .slice b1 k1 d1, .slice b2 k2 d2] 32))
  have B2 : Bk ((w.alloc (.cells #[.slice a0 k0 c0, .slice a1 k1 c1, .slice a2 k2 c2] 32)).alloc (.cells #[.slice b0 k0 d0, .slice b1 k1 d1, .slice b2 k2 d2] 32)) (w.heap.size + 1) [.slice b0 k0 d0, .slice b1 k1 d1, .slice b2 k2 d2] 32 := by
    have := bk_new (w.alloc (.cells #[.slice a0 k0 c0, .slice a1 k1 c1, .slice a2 k2 c2] 32)) [.slice b0 k0 d0, .slice b1 k1 d1, .slice b2 k2 d2] 32
    rw [size_alloc1] at this
    exact this
  go_enter Try.func21, Try.ntmps21
  go_upto_region 1 with fail
  generalize (w.alloc (.cells #[.slice a0 k0 c0, .slice a1 k1 c1, .slice a2 k2 c2] 32)).alloc (.cells #[.slice b0 k0 d0, .slice b1 k1 d1, .slice b2 k2 d2] 32) = w1 at *
  have HB := hid hb; have HB1 := hid B1; have HB2 := hid B2
  clear hb B1 B2
  have r0 := HB1.out.cell (j := 0) rfl
  have l0 := HB2.out.cell (j := 0) rfl
  go_wp2_with fail
  refine (C0.out _ HB.out).mono ?_
  rintro e w2 ⟨rfl, hb0⟩
  replace HB := hid (HB.out.trans (hb0.mono HB.out.size)); replace HB1 := hid (HB1.out.below hb0); replace HB2 := hid (HB2.out.below hb0)
  clear hb0 r0 l0
  have r1 := HB1.out.cell (j := 1) rfl
  have l1 := HB2.out.cell (j := 1) rfl
  go_wp2_with fail
  refine (C1.out _ HB.out).mono ?_
  rintro e w3 ⟨rfl, hb1⟩
  replace HB := hid (HB.out.trans (hb1.mono HB.out.size)); replace HB1 := hid (HB1.out.below hb1); replace HB2 := hid (HB2.out.below hb1)
  clear hb1 r1 l1
  have r2 := HB1.out.cell (j := 2) rfl
  have l2 := HB2.out.cell (j := 2) rfl
  go_wp2_with fail
  refine (C2.out _ HB.out).mono ?_
  rintro e w4 ⟨rfl, hb2⟩
  replace HB := hid (HB.out.trans (hb2.mono HB.out.size)); replace HB1 := hid (HB1.out.below hb2); replace HB2 := hid (HB2.out.below hb2)
  clear hb2 r2 l2
  go_wp2
  go_ret
  exact ⟨rfl, HB.out⟩
set_option maxRecDepth 100000 in
set_option maxHeartbeats 4000000 in
theorem stListEq_c {w : World} {ao bo : Option Addr} {k ca cb : Nat} {E : Nat → Int} (ha : El w ao k E) (hb : El w bo k E) (hk : k ≤ 1048576) :
    Calls Try.prog 41 #[.slice ao k ca, .slice bo k cb] w fun e w' => e = .returned (.bool true) ∧ Below w.heap.size w w' := by
  have HA := hid ha; have HB := hid hb
  have hkk : (((k : Nat) : Int) != ((k : Nat) : Int)) = false := by simp
  clear ha hb
  go_enter Try.func41, Try.ntmps41
  go_wp2_with fail
  go_loopw [13] (fun t wr => ∃ (i : Nat), i ≤ k ∧ t = .int .i64 i ∧ Hid (Below w.heap.size w wr)) (fun t _ => k - (intOf t).toNat)
  case atStart => exact ⟨0, by omega, rfl, Below.refl _ _⟩
  case round =>
    obtain ⟨i, hi, rfl, HW⟩ := hrel
    by_cases hlt : i < k
    · obtain ⟨b, o, rfl, x0⟩ := (HA.out.below HW.out) i hlt
      obtain ⟨b', o', rfl, x1⟩ := (HB.out.below HW.out) i hlt
      obtain ⟨z, hz⟩ : ∃ z, E i = z := ⟨_, rfl⟩
      rw [hz] at x0 x1
      have hzz : (z != z) = false := by simp
      have i2 : ((i : Nat) : Int) < ((k : Nat) : Int) := by omega
      clear hz
      go_upto_region 6 with fail
      go_quiet (fail)
      go_wp2
      go_roundw
      case rel => exact ⟨i + 1, by omega, by go_num, (by first | exact HW.out | exact HW.out.drew | exact below_drewN HW.out _)⟩
      case measure => simp [intOf]; omega
    · have i2 : ¬ (((i : Nat) : Int) < ((k : Nat) : Int)) := by omega
      go_wp2
      go_ret
      exact ⟨rfl, HW.out⟩
set_option maxRecDepth 100000 in
set_option maxHeartbeats 4000000 in
theorem sameBs_c {w : World} {a0 b0 a1 b1 : Option Addr} {k0 c0 d0 k1 c1 d1 : Nat} {E0 E1 : Nat → Int} (ha0 : El w a0 k0 E0) (hb0 : El w b0 k0 E0) (hl0 : k0 ≤ 1048576) (ha1 : El w a1 k1 E1) (hb1 : El w b1 k1 E1) (hl1 : k1 ≤ 1048576) :
    Calls Try.prog 25 #[.agg #[.slice a0 k0 c0, .slice a1 k1 c1], .agg #[.slice b0 k0 d0, .slice b1 k1 d1]] w fun e w' => e = .returned (.bool true) ∧ Below w.heap.size w w' := by
  have C0 := hid (fun W (hW : Below w.heap.size w W) => stListEq_c (w := W) (ca := c0) (cb := d0) (ha0.below hW) (hb0.below hW) hl0)
  have C1 := hid (fun W (hW : Below w.heap.size w W) => stListEq_c (w := W) (ca := c1) (cb := d1) (ha1.below hW) (hb1.below hW) hl1)
  clear ha0 hb0 ha1 hb1
  have hb := below_alloc (below_alloc (Below.refl w.heap.size w) (.cells #[.slice a0 k0 c0, .slice a1 k1 c1] 35)) (.cells #[.slice b0 k0 d0, .slice b1 k1 d1] 35)
  have B1 : Bk ((w.alloc (.cells #[.slice a0 k0 c0, .slice a1 k1 c1] 35)).alloc (.cells #[.slice b0 k0 d0, .slice b1 k1 d1] 35)) w.heap.size [.slice a0 k0 c0, .slice a1 k1 c1] 35 := (bk_new w [.slice a0 k0 c0, .slice a1 k1 c1] 35).below (below_alloc (Below.refl _ _) (.cells #[.slice b0 k0 d0, .slice b1 k1 d1] 35))
  have B2 : Bk ((w.alloc (.cells #[.slice a0 k0 c0, .slice a1 k1 c1] 35)).alloc (.cells #[.slice b0 k0 d0, .slice b1 k1 d1] 35)) (w.heap.size + 1) [.slice b0 k0 d0, .slice b1 k1 d1] 35 := by
    have := bk_new (w.alloc (.cells #[.slice a0 k0 c0, .slice a1 k1 c1] 35)) [.slice b0 k0 d0, .slice b1 k1 d1] 35
    rw [size_alloc1] at this
    exact this
  go_enter Try.func25, Try.ntmps25
  go_upto_region 1 with fail
  generalize (w.alloc (.cells #[.slice a0 k0 c0, .slice a1 k1 c1] 35)).alloc (.cells #[.slice b0 k0 d0, .slice b1 k1 d1] 35) = w1 at *
  have HB := hid hb; have HB1 := hid B1; have HB2 := hid B2
  clear hb B1 B2
  have r0 := HB1.out.cell (j := 0) rfl
  have l0 := HB2.out.cell (j := 0) rfl
  go_wp2_with fail
  refine (C0.out _ HB.out).mono ?_
  rintro e w2 ⟨rfl, hb0⟩
  replace HB := hid (HB.out.trans (hb0.mono HB.out.size)); replace HB1 := hid (HB1.out.below hb0); replace HB2 := hid (HB2.out.below hb0)
  clear hb0 r0 l0
  have r1 := HB1.out.cell (j := 1) rfl
  have l1 := HB2.out.cell (j := 1) rfl
  go_wp2_with fail
  refine (C1.out _ HB.out).mono ?_
  rintro e w3 ⟨rfl, hb1⟩
  replace HB := hid (HB.out.trans (hb1.mono HB.out.size)); replace HB1 := hid (HB1.out.below hb1); replace HB2 := hid (HB2.out.below hb1)
  clear hb1 r1 l1
  go_wp2
  go_ret
  exact ⟨rfl, HB.out⟩
end Go.Proofs.Ytllpllebmknmpaa
namespace Go.Proofs.Ytllpllebmknmpaa
open Go.RowKit

/-- A value that is a list of the same numbers. -/
def RS (k : Nat) (X : Nat → Nm) (v : Value) (w : World) : Prop := ∃ ao c Y, v = .slice ao k c ∧ Rl w ao k Y ∧ ∀ j, j < k → Sn (X j) (Y j)
theorem RS.below {k X v w w'} (h : RS k X v w) (hb : Below w.heap.size w w') : RS k X v w' := by
  obtain ⟨ao, c, Y, h1, h2, h3⟩ := h
  exact ⟨ao, c, Y, h1, h2.below hb, h3⟩
theorem RS.st {k X v} {w w' : World} {B : Nat} (h : RS k X v w) (hk : Kp w w') (hne : ∀ b, b ≠ B → w'.heap[b]? = w.heap[b]?) (hnb : ∀ o s, w.cell? ⟨B, o, none⟩ ≠ some (.bool s)) : RS k X v w' := by
  obtain ⟨ao, c, Y, h1, h2, h3⟩ := h
  exact ⟨ao, c, Y, h1, h2.st hk hne hnb, h3⟩
theorem Sn.trans {a b c : Nm} (h : Sn a b) (k : Sn b c) : Sn a c := by
  obtain ⟨h1, h2, h3, h4, h5⟩ := h
  obtain ⟨k1, k2, k3, k4, k5⟩ := k
  exact ⟨k1.trans h1, k2.trans h2, k3.trans h3, k4.trans h4, k5.trans h5⟩
theorem Cp.rs {w base g k X Y} {ao : Option Addr} {w0 : World} (h : Cp w base g k k X Y) (hx : Rl w0 ao k X) : RS k X (.slice (some ⟨g, 0, none⟩) k k) w := ⟨_, _, Y, rfl, h.rl hx, fun j hj => (h.el j hj).2.1⟩
/-- Lists with the same numbers, in form, compare equal. -/
theorem sames_of {w : World} {ao bo : Option Addr} {k : Nat} {X Y : Nat → Nm} {K : Nat} (hX : Rl w ao k X) (hY : Rl w bo k Y) (hs : ∀ j, j < k → Sn (X j) (Y j)) (hf : afB k X = true) (hK : ∀ j, j < k → (X j).n ≤ K ∧ (X j).m ≤ K) : ∃ p : List Rat, p.length = k ∧ Rf K w ao p ∧ Rf K w bo p := by
  obtain ⟨p, h1, h2, h3⟩ := rl_rf hX hf hK
  refine ⟨p, h1, h2, fun j q hj => ?_⟩
  have hlt : j < k := by have := (List.getElem?_eq_some_iff.1 hj).1; omega
  obtain ⟨q', h4, h5⟩ := h3 j hlt
  rw [hj] at h4
  obtain rfl := Option.some.inj h4
  obtain ⟨b, o, e, h6, h7⟩ := hY j hlt
  exact ⟨b, o, Y j, e, h6, h5.sn (hs j hlt) h7.1⟩
theorem pnE_sn {k : Nat} {X Y : Nat → Nm} {z : Int} (h : ∀ j, j < k → Sn (X j) (Y j)) : pnE k Y z = pnE k X z := by
  have : afB k Y = afB k X := afr_sn (r := k) (i := 0) (fun j _ hj => h j (by omega))
  unfold pnE
  rw [this]
/-- A list of lists of numbers. -/
def LL (w : World) (ao : Option Addr) (m : Nat) (P : Nat → Option Addr) (K C : Nat → Nat) (X : Nat → Nat → Nm) : Prop :=
  ∀ i, i < m → ∃ b o, ao = some ⟨b, o, none⟩ ∧ w.cell? ⟨b, o + i, none⟩ = some (.slice (P i) (K i) (C i)) ∧ Rl w (P i) (K i) (X i) ∧ K i ≤ 10000 ∧ ∀ j, j < K i → (X i j).n ≤ 1000 ∧ (X i j).m ≤ 1000
theorem LL.below {w w' ao m P K C X} (h : LL w ao m P K C X) (hb : Below w.heap.size w w') : LL w' ao m P K C X := fun i hi => by
  obtain ⟨b, o, e, h1, h2, h3⟩ := h i hi
  exact ⟨b, o, e, kCb hb h1, h2.below hb, h3⟩
def lmin (a b : Int) : Int := lsf (two a b) 2
def lstp (z e : Int) (k : Nat) (X : Nat → Nm) : Int := if (k : Int) = z then (if afB k X = true then e else lmin e 3) else lmin (if afB k X = true then e else lmin e 3) 7
def lstF (z : Int) (K : Nat → Nat) (X : Nat → Nat → Nm) : Nat → Int
  | 0 => 0
  | i + 1 => lstp z (lstF z K X i) (K i) (X i)
theorem pnE_in (k : Nat) (X : Nat → Nm) (z : Int) : pnE k X z = 0 ∨ pnE k X z = 3 ∨ pnE k X z = 7 := by
  unfold pnE
  split
  · split
    · exact .inl rfl
    · exact .inr (.inr rfl)
  · exact .inr (.inl rfl)
theorem lstp_min {z e : Int} {k : Nat} {X : Nat → Nm} (he : e = 0 ∨ e = 3 ∨ e = 7) : lstp z e k X = lmin e (pnE k X z) := by
  unfold lstp pnE
  by_cases h1 : (k : Int) = z
  · by_cases h2 : afB k X = true
    · rw [if_pos h1, if_pos h2, if_pos h2, if_pos h1]; rcases he with rfl | rfl | rfl <;> decide
    · rw [if_pos h1, if_neg h2, if_neg h2]
  · by_cases h2 : afB k X = true
    · rw [if_neg h1, if_pos h2, if_pos h2, if_neg h1]
    · rw [if_neg h1, if_neg h2, if_neg h2]; rcases he with rfl | rfl | rfl <;> decide
theorem lstF_one {z : Int} {K : Nat → Nat} {X : Nat → Nat → Nm} : lstF z K X 1 = pnE (K 0) (X 0) z := by
  show lstp z 0 _ _ = _
  rw [lstp_min (.inl rfl)]
  rcases pnE_in (K 0) (X 0) z with h | h | h <;> rw [h] <;> decide
theorem lstF_two {z : Int} {K : Nat → Nat} {X : Nat → Nat → Nm} : lstF z K X 2 = lmin (pnE (K 0) (X 0) z) (pnE (K 1) (X 1) z) := by
  show lstp z (lstF z K X 1) _ _ = _
  rw [lstF_one, lstp_min (pnE_in _ _ _)]

set_option maxRecDepth 100000 in
set_option maxHeartbeats 4000000 in
theorem lists_c {w : World} {ao : Option Addr} {m cap : Nat} {P : Nat → Option Addr} {K C : Nat → Nat} {X : Nat → Nat → Nm} {z : Int} (h : LL w ao m P K C X) (hm : m ≤ 1048576) :
    Calls Try.prog 15 #[.int .i64 z, .slice ao m cap] w fun e w' => e = .returned (.int .i64 (lstF z K X m)) ∧ Below w.heap.size w w' := by
  have H := hid h
  clear h
  go_enter Try.func15, Try.ntmps15
  go_wp2_with fail
  go_loopw [5, 10] (fun l t wr => ∃ (i : Nat) (v : Int), i ≤ m ∧ t = .int .i64 i ∧ l = .int .i64 v ∧ Hid (Below w.heap.size w wr) ∧ Hid (lstF z K X i = v)) (fun _ t _ => m - (intOf t).toNat)
  case atStart => exact ⟨0, 0, by omega, rfl, rfl, Below.refl _ _, rfl⟩
  case round =>
    obtain ⟨i, v, hi, rfl, rfl, HB, HI⟩ := hrel
    by_cases hlt : i < m
    · obtain ⟨b, o, rfl, hc, hx, hk, hl⟩ := (H.out.below HB.out) i hlt
      obtain ⟨p, hp⟩ : ∃ p, P i = p := ⟨_, rfl⟩
      obtain ⟨k, hk2⟩ : ∃ k, K i = k := ⟨_, rfl⟩
      obtain ⟨c, hc2⟩ : ∃ c, C i = c := ⟨_, rfl⟩
      have hT : lstF z K X (i + 1) = lstp z v k (X i) := by show lstp z (lstF z K X i) (K i) (X i) = _; rw [HI.out, hk2]
      rw [hp, hk2, hc2] at hc
      rw [hp, hk2] at hx
      rw [hk2] at hk hl
      have CF := hid (forms_c (cap := c) hx hk hl)
      have HT := hid hT
      have i1 : ((i : Nat) : Int) < ((m : Nat) : Int) := by omega
      clear hp hk2 hc2 hT hx hl HI
      cases hf : afB k (X i)
      · rw [hf] at CF
        have HF := hid hf
        clear hf
        obtain ⟨v1, hv1⟩ : ∃ v1, lmin v 3 = v1 := ⟨_, rfl⟩
        have HV := hid hv1
        clear hv1
        go_wp2_with fail
        refine CF.out.mono ?_
        rintro e w1 ⟨rfl, hb1⟩
        have HB1 := hid (HB.out.trans (hb1.mono HB.out.size))
        clear hb1
        have hbA := below_alloc (Below.refl w1.heap.size w1) (.cells #[.int .i64 v, .int .i64 3] 3)
        have HEl := hid (two_el (w := w1) (a := v) (b := 3) (t := 3))
        have HB2 := hid (HB1.out.trans (hbA.mono HB1.out.size))
        clear hbA
        go_wp2_with fail
        generalize w1.alloc (.cells #[.int .i64 v, .int .i64 3] 3) = w2 at *
        refine (fLeast_c HEl.out (by decide)).mono ?_
        rintro e w3 ⟨rfl, rfl⟩
        rw [show lsf (two v 3) 2 = v1 from HV.out]
        by_cases hz : ((k : Nat) : Int) = z
        · have hz1 : (((k : Nat) : Int) != z) = false := by simpa using hz
          have HT2 := hid (show lstF z K X (i + 1) = v1 by rw [HT.out, lstp, if_pos hz, if_neg (by rw [HF.out]; decide)]; exact HV.out)
          clear hz HT CF HEl
          go_wp2
          go_roundw
          case rel => exact ⟨i + 1, v1, by omega, by go_num, rfl, HB2.out, HT2.out⟩
          case measure => simp [intOf]; omega
        · have hz1 : (((k : Nat) : Int) != z) = true := by simpa using hz
          obtain ⟨v2, hv2⟩ : ∃ v2, lmin v1 7 = v2 := ⟨_, rfl⟩
          have HT2 := hid (show lstF z K X (i + 1) = v2 by rw [HT.out, lstp, if_neg hz, if_neg (by rw [HF.out]; decide), HV.out]; exact hv2)
          have HV2 := hid hv2
          have hbA := below_alloc (Below.refl w3.heap.size w3) (.cells #[.int .i64 v1, .int .i64 7] 3)
          have HEl2 := hid (two_el (w := w3) (a := v1) (b := 7) (t := 3))
          have HB3 := hid (HB2.out.trans (hbA.mono HB2.out.size))
          clear hz HT CF HEl hv2 hbA
          go_wp2_with fail
          generalize w3.alloc (.cells #[.int .i64 v1, .int .i64 7] 3) = w4 at *
          refine (fLeast_c HEl2.out (by decide)).mono ?_
          rintro e w5 ⟨rfl, rfl⟩
          rw [show lsf (two v1 7) 2 = v2 from HV2.out]
          go_wp2
          go_roundw
          case rel => exact ⟨i + 1, v2, by omega, by go_num, rfl, HB3.out, HT2.out⟩
          case measure => simp [intOf]; omega
      · rw [hf] at CF
        have HF := hid hf
        clear hf
        go_wp2_with fail
        refine CF.out.mono ?_
        rintro e w3 ⟨rfl, hb1⟩
        have HB2 := hid (HB.out.trans (hb1.mono HB.out.size))
        clear hb1
        by_cases hz : ((k : Nat) : Int) = z
        · have hz1 : (((k : Nat) : Int) != z) = false := by simpa using hz
          have HT2 := hid (show lstF z K X (i + 1) = v by rw [HT.out, lstp, if_pos hz, if_pos HF.out])
          clear hz HT CF
          go_wp2
          go_roundw
          case rel => exact ⟨i + 1, v, by omega, by go_num, rfl, HB2.out, HT2.out⟩
          case measure => simp [intOf]; omega
        · have hz1 : (((k : Nat) : Int) != z) = true := by simpa using hz
          obtain ⟨v2, hv2⟩ : ∃ v2, lmin v 7 = v2 := ⟨_, rfl⟩
          have HT2 := hid (show lstF z K X (i + 1) = v2 by rw [HT.out, lstp, if_neg hz, if_pos HF.out]; exact hv2)
          have HV2 := hid hv2
          have hbA := below_alloc (Below.refl w3.heap.size w3) (.cells #[.int .i64 v, .int .i64 7] 3)
          have HEl2 := hid (two_el (w := w3) (a := v) (b := 7) (t := 3))
          have HB3 := hid (HB2.out.trans (hbA.mono HB2.out.size))
          clear hz HT CF hv2 hbA
          go_wp2_with fail
          generalize w3.alloc (.cells #[.int .i64 v, .int .i64 7] 3) = w4 at *
          refine (fLeast_c HEl2.out (by decide)).mono ?_
          rintro e w5 ⟨rfl, rfl⟩
          rw [show lsf (two v 7) 2 = v2 from HV2.out]
          go_wp2
          go_roundw
          case rel => exact ⟨i + 1, v2, by omega, by go_num, rfl, HB3.out, HT2.out⟩
          case measure => simp [intOf]; omega
    · have e1 : i = m := by omega
      have i1 : ¬ (((i : Nat) : Int) < ((m : Nat) : Int)) := by omega
      rw [e1] at HI
      clear e1
      go_wp2
      go_ret
      refine ⟨?_, HB.out⟩
      rw [HI.out]; rfl
end Go.Proofs.Ytllpllebmknmpaa

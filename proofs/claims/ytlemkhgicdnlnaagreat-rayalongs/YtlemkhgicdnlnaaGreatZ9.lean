/-
  The walk of package model's Check, whatever it is handed (written by makers/f7.py). The walks of slices.Index of texts, of package model's place, Col and Row (written by makers/f8.py). Walks of the document's reference for ext: Twin, From, To, Num, Low, High, Same, Form, Cmp, Max, Min. Walks of ext: allForm, Cmp, Max, Min, whatever they are handed. The number that a number in memory is; the walk of package model's above. Lists of places in memory; the walk of package model's Crossed (written by makers/f10.py). The walks of slices.Equal of limbs, and of package model's sameRat, sameExt, sameTerm. The walks of package model's sameExt, sameTerm, sameCol, sameRow, and of slices.EqualFunc with them (written by makers/f12.py). The walks of slices.EqualFunc of terms, columns and rows, and of package model's sameRow (written by makers/f13.py). The walks of Least, of package model and of the reference. The walks of package model's Least and Equal (written by makers/f14.py). The walks of the reference's Name, bounds and Least (written by makers/f16.py). The statements' looks at how long the numbers of lists are (light, Lights). The walk of the reference's Light of a model, whatever it is and however long (written by makers/f17.py). The walk of the reference's Twin of a list of terms. append of one struct to a row that may be as long as memory bears, and where the answer lies (written by makers/f18.py out of Ag and C3). No Go text is named here. The walk of the reference's Twin of a list of terms, however long (written by makers/f20.py out of C22). The walks of rat.Copy of any number, and of package model's copyTerms (written by makers/f15.py out of Q16 and C22). Lists of lists of terms; the walk of package model's Columns (written by makers/f19.py). A drawn region as a flow: operations that make values or new memory (calls, builds, lists that are built) in whatever order, each shown once; behind them those that must come last. No Go text is named here. Blocks that are told whole, and what is written into them. Models by their values; the walks of law07's num and small (written by makers/f21.py). What models are by their values: well formed, crossed, equal, the places of names. Models however long; the walk of the reference's Twin of a model (written by makers/f24.py). The walk of the reference's Form of a list of terms. The walk of the reference's DocCheck (written by makers/f25.py). What DocCheck answers is what Check answers. The same model elsewhere; light models; the walks of the reference's DocCol and DocRow (written by makers/f27.py). How arguments that are models are opened: each list of them takes no more memory than an argument's list may. What the rows of this seat share: its program, and how models are opened. The seat's rows list no tables. How an argument that is a ray is opened: what it weighs bounds its lengths. What the rows of this seat share: its program, and how models and rays are opened. The seat's rows list no tables.
-/
import Derived.Test.YtlemkhgicdnlnaaGreatZ8
import Derived.Test.YtlemkhgicdnlnaaGreatZ7
import Derived.Test.YtlemkhgicdnlnaaGreatZ6
import Derived.Deep.RegionHeld3
import Derived.BigQuiet
import Derived.Test.YtlemkhgicdnlnaaGreatZ0
import Derived.Deep.CutRange
import Derived.ProofKit
import Derived.OpenShut
import Derived.ChangeSame
import Derived.Deep.Slices
import Derived.SizedLaws
import Derived.Test.YtlemkhgicdnlnaaGreatRows
import Derived.Test.YtlemkhgicdnlnaaGreatChecked
import Derived.Deep.DeepHandedRow
namespace Go.Proofs.YtlemkhgicdnlnaaGreat
open Go.RowKit

/-- Check's answer: too long, in form, names of columns and of rows, twice among columns or rows, below. -/
def chkV (l t1 t2 t3 t4 t5 t6 : Bool) : Int := if l then 2 else if !t1 then 3 else if !(t2 && t3) then 5 else if t4 || t5 then 6 else if !t6 then 7 else 0
def chkE (M : Mo) : Int := chkV (decide (64 < M.ck) || decide (64 < M.rk)) (moF M) (nms (fun j => (M.C j).nm) M.ck 0) (nms (fun j => (M.R j).nm) M.rk 0) (twr (fun j => (M.C j).nm) M.ck 0) (twr (fun j => (M.R j).nm) M.rk 0) (alB M.ck M.R M.rk 0)

set_option maxRecDepth 100000 in
set_option maxHeartbeats 4000000 in
theorem check_c {w : World} {M : Mo} (h : MoR w M) : Calls Tryz.prog 37 #[M.val] w fun r w' => r = .returned (.int .i64 (chkE M)) ∧ Below w.heap.size w w' := by
  have hck := h.ck; have hrk := h.rk
  have CN := hid (fun w' (hw : Below w.heap.size w w') (h1 : M.ck ≤ 1000) (h2 : M.rk ≤ 1000) => names_c (w := w') (h.below hw) h1 h2)
  have CI := hid (fun w' (hw : Below w.heap.size w w') => inForm_c (w := w') (h.below hw))
  have CL := hid (fun w' (hw : Below w.heap.size w w') => mBelow_c (w := w') (h.below hw))
  obtain ⟨t1, ht1⟩ : ∃ z, moF M = z := ⟨_, rfl⟩
  obtain ⟨S, hS⟩ : ∃ S : Nat → ByteArray, (fun j => (M.C j).nm) = S := ⟨_, rfl⟩
  obtain ⟨Z, hZ⟩ : ∃ S : Nat → ByteArray, (fun j => (M.R j).nm) = S := ⟨_, rfl⟩
  obtain ⟨t2, ht2⟩ : ∃ z, nms S M.ck 0 = z := ⟨_, rfl⟩
  obtain ⟨t3, ht3⟩ : ∃ z, nms Z M.rk 0 = z := ⟨_, rfl⟩
  obtain ⟨t4, ht4⟩ : ∃ z, twr S M.ck 0 = z := ⟨_, rfl⟩
  obtain ⟨t5, ht5⟩ : ∃ z, twr Z M.rk 0 = z := ⟨_, rfl⟩
  obtain ⟨t6, ht6⟩ : ∃ z, alB M.ck M.R M.rk 0 = z := ⟨_, rfl⟩
  obtain ⟨ans, hans⟩ : ∃ z, chkE M = z := ⟨_, rfl⟩
  have hA : ans = chkV (decide (64 < M.ck) || decide (64 < M.rk)) t1 t2 t3 t4 t5 t6 := by rw [← hans, chkE, hS, hZ, ht1, ht2, ht3, ht4, ht5, ht6]
  rw [hans]
  unfold NmsAns at CN
  rw [ht1] at CI
  rw [ht6] at CL
  rw [hS, hZ] at CN
  clear hans ht1 ht6 hS hZ h
  obtain ⟨⟨s, x, n, c, f, y, m, d, g⟩, ca, ck, cc, C, ra, rk, rc, R⟩ := M
  replace hck : ck ≤ 1048576 := hck
  replace hrk : rk ≤ 1048576 := hrk
  have HA : Hid (ans = chkV (decide (64 < ck) || decide (64 < rk)) t1 t2 t3 t4 t5 t6) := hA
  have H2 : Hid (nms S ck 0 = t2) := ht2
  have H3 : Hid (nms Z rk 0 = t3) := ht3
  have H4 : Hid (twr S ck 0 = t4) := ht4
  have H5 : Hid (twr Z rk 0 = t5) := ht5
  replace CN : Hid (∀ w', Below w.heap.size w w' → ck ≤ 1000 → rk ≤ 1000 → Calls Tryz.prog 71 #[.agg #[.bool s, .slice x n c, .slice y m d, .slice ca ck cc, .slice ra rk rc]] w' fun e w2 => ∃ xa xc ya yc, e = .returned (.tuple #[.slice xa ck xc, .slice ya rk yc]) ∧ Below w'.heap.size w' w2 ∧ Sl w2 xa ck S ∧ Sl w2 ya rk Z) := CN
  replace CI : Hid (∀ w', Below w.heap.size w w' → Calls Tryz.prog 72 #[.agg #[.bool s, .slice x n c, .slice y m d, .slice ca ck cc, .slice ra rk rc]] w' fun e w2 => e = .returned (.bool t1) ∧ Below w'.heap.size w' w2) := CI
  replace CL : Hid (∀ w', Below w.heap.size w w' → Calls Tryz.prog 75 #[.agg #[.bool s, .slice x n c, .slice y m d, .slice ca ck cc, .slice ra rk rc]] w' fun e w2 => e = .returned (.bool t6) ∧ Below w'.heap.size w' w2) := CL
  clear hA ht2 ht3 ht4 ht5
  show Calls Tryz.prog 37 #[.agg #[.bool s, .slice x n c, .slice y m d, .slice ca ck cc, .slice ra rk rc]] w _
  by_cases h1 : 64 < ck
  · have HV : Hid (ans = 2) := by show _ = _; rw [HA.out]; simp [chkV, h1]
    have e1 : (ck : Int) > 64 := by omega
    clear HA h1
    go_enter Tryz.func37, Tryz.ntmps37
    go_wp2
    go_ret
    refine ⟨?_, below_alloc (Below.refl _ _) _⟩
    rw [HV.out]; rfl
  by_cases h2 : 64 < rk
  · have HV : Hid (ans = 2) := by show _ = _; rw [HA.out]; simp [chkV, h2]
    have e1 : ¬ (ck : Int) > 64 := by omega
    have e2 : (rk : Int) > 64 := by omega
    clear HA h1 h2
    go_enter Tryz.func37, Tryz.ntmps37
    go_wp2
    go_ret
    refine ⟨?_, below_alloc (Below.refl _ _) _⟩
    rw [HV.out]; rfl
  have HV : Hid (ans = chkV false t1 t2 t3 t4 t5 t6) := by show _ = _; rw [HA.out]; simp [h1, h2]
  have e1 : ¬ (ck : Int) > 64 := by omega
  have e2 : ¬ (rk : Int) > 64 := by omega
  have l1 : ck ≤ 1000 := by omega
  have l2 : rk ≤ 1000 := by omega
  clear HA h1 h2
  go_enter Tryz.func37, Tryz.ntmps37
  go_wp2_with fail
  have HB := hid (below_alloc (Below.refl w.heap.size w) (.cells #[.bool s, .slice x n c, .slice y m d, .slice ca ck cc, .slice ra rk rc] 28))
  refine (CN.out _ HB.out l1 l2).mono ?_
  rintro r w1 ⟨xa, xc, ya, yc, rfl, hb1, hSX, hSY⟩
  have k0 := kCb hb1 (a := ⟨w.heap.size, 0, none⟩) (v := .bool s) (by simp [go_sem])
  have k1 := kCb hb1 (a := ⟨w.heap.size, 1, none⟩) (v := .slice x n c) (by simp [go_sem])
  have k2 := kCb hb1 (a := ⟨w.heap.size, 2, none⟩) (v := .slice y m d) (by simp [go_sem])
  have k3 := kCb hb1 (a := ⟨w.heap.size, 3, none⟩) (v := .slice ca ck cc) (by simp [go_sem])
  have k4 := kCb hb1 (a := ⟨w.heap.size, 4, none⟩) (v := .slice ra rk rc) (by simp [go_sem])
  have HX := hid hSX; have HY := hid hSY
  have HB1 := hid (HB.out.trans (hb1.mono HB.out.size))
  clear hb1 HB CN hSX hSY
  go_wp2_with fail
  refine (CI.out _ HB1.out).mono ?_
  rintro r w2 ⟨rfl, hb2⟩
  replace HX := hid (HX.out.below hb2); replace HY := hid (HY.out.below hb2)
  replace k0 := kCb hb2 k0; replace k1 := kCb hb2 k1; replace k2 := kCb hb2 k2; replace k3 := kCb hb2 k3; replace k4 := kCb hb2 k4
  have HB2 := hid (HB1.out.trans (hb2.mono HB1.out.size))
  clear hb2 HB1 CI
  cases t1
  · go_wp2
    go_ret
    refine ⟨?_, HB2.out⟩
    rw [HV.out]; rfl
  have CA := hid (allNames_c (cap := xc) HX.out (by omega))
  rw [H2.out] at CA
  go_wp2_with fail
  refine CA.out.mono ?_
  rintro r w2' ⟨rfl, rfl⟩
  cases t2
  · go_wp2
    go_ret
    refine ⟨?_, HB2.out⟩
    rw [HV.out]; rfl
  have CA2 := hid (allNames_c (cap := yc) HY.out (by omega))
  rw [H3.out] at CA2
  go_wp2_with fail
  refine CA2.out.mono ?_
  rintro r w2' ⟨rfl, rfl⟩
  cases t3
  · go_wp2
    go_ret
    refine ⟨?_, HB2.out⟩
    rw [HV.out]; rfl
  have CT := hid (anyTwice_c (cap := xc) HX.out (by omega))
  rw [H4.out] at CT
  go_wp2_with fail
  refine CT.out.mono ?_
  rintro r w3 ⟨rfl, hb3⟩
  replace HY := hid (HY.out.below hb3)
  replace k0 := kCb hb3 k0; replace k1 := kCb hb3 k1; replace k2 := kCb hb3 k2; replace k3 := kCb hb3 k3; replace k4 := kCb hb3 k4
  have HB3 := hid (HB2.out.trans (hb3.mono HB2.out.size))
  clear hb3 HX CA CA2 CT
  cases t4
  case true =>
    go_wp2
    go_ret
    refine ⟨?_, HB3.out⟩
    rw [HV.out]; rfl
  have CT := hid (anyTwice_c (cap := yc) HY.out (by omega))
  rw [H5.out] at CT
  go_wp2_with fail
  refine CT.out.mono ?_
  rintro r w4 ⟨rfl, hb4⟩
  replace k0 := kCb hb4 k0; replace k1 := kCb hb4 k1; replace k2 := kCb hb4 k2; replace k3 := kCb hb4 k3; replace k4 := kCb hb4 k4
  have HB4 := hid (HB3.out.trans (hb4.mono HB3.out.size))
  clear hb4 HY CT HB2 HB3
  cases t5
  case true =>
    go_wp2
    go_ret
    refine ⟨?_, HB4.out⟩
    rw [HV.out]; rfl
  go_wp2_with fail
  refine (CL.out _ HB4.out).mono ?_
  rintro r w5 ⟨rfl, hb5⟩
  have HB5 := hid (HB4.out.trans (hb5.mono HB4.out.size))
  clear hb5 HB4 k0 k1 k2 k3 k4
  cases t6
  · go_wp2
    go_ret
    refine ⟨?_, HB5.out⟩
    rw [HV.out]; rfl
  · go_wp2
    go_ret
    refine ⟨?_, HB5.out⟩
    rw [HV.out]; rfl

set_option maxRecDepth 100000 in
set_option maxHeartbeats 4000000 in
theorem checkL_c {w : World} {M : Mo} (h : 64 < M.ck ∨ 64 < M.rk) : Calls Tryz.prog 37 #[M.val] w fun r w' => r = .returned (.int .i64 2) ∧ Below w.heap.size w w' := by
  obtain ⟨⟨s, x, n, c, f, y, m, d, g⟩, ca, ck, cc, C, ra, rk, rc, R⟩ := M
  replace h : 64 < ck ∨ 64 < rk := h
  show Calls Tryz.prog 37 #[.agg #[.bool s, .slice x n c, .slice y m d, .slice ca ck cc, .slice ra rk rc]] w _
  by_cases h1 : 64 < ck
  · have e1 : (ck : Int) > 64 := by omega
    clear h1 h
    go_enter Tryz.func37, Tryz.ntmps37
    go_wp2
    go_ret
    exact ⟨rfl, below_alloc (Below.refl _ _) _⟩
  · have e1 : ¬ (ck : Int) > 64 := by omega
    have e2 : (rk : Int) > 64 := by omega
    clear h1 h
    go_enter Tryz.func37, Tryz.ntmps37
    go_wp2
    go_ret
    exact ⟨rfl, below_alloc (Below.refl _ _) _⟩
/-- A model of any length: of one that is too long nothing is known. -/
def MoW (w : World) (M : Mo) : Prop := M.ck ≤ 64 → M.rk ≤ 64 → MoR w M
theorem MoW.below {w w' M} (h : MoW w M) (hb : Below w.heap.size w w') : MoW w' M := fun h1 h2 => (h h1 h2).below hb
theorem check_w {w : World} {M : Mo} (h : MoW w M) : Calls Tryz.prog 37 #[M.val] w fun r w' => r = .returned (.int .i64 (chkE M)) ∧ Below w.heap.size w w' := by
  by_cases h1 : 64 < M.ck ∨ 64 < M.rk
  · have e : chkE M = 2 := by
      have : (decide (64 < M.ck) || decide (64 < M.rk)) = true := by simpa using h1
      rw [chkE, this]; rfl
    rw [e]; exact checkL_c h1
  · exact check_c (h (by omega) (by omega))
end Go.Proofs.YtlemkhgicdnlnaaGreat
namespace Go.Proofs.YtlemkhgicdnlnaaGreat
open Go.RowKit

/-- The place of z among the r texts from place i on, or -1. -/
def idx (S : Nat → ByteArray) (z : ByteArray) : Nat → Nat → Int
  | 0, _ => -1
  | r + 1, i => if z = S i then (i : Int) else idx S z r (i + 1)
def plc (p : Int) : Int × Int := if p < 0 then (0, 9) else (p, 0)

/-- Row's answer: the place and the error. -/
def atRow (M : Mo) (z : ByteArray) : Int × Int := if chkE M = 0 then plc (idx (fun j => (M.R j).nm) z M.rk 0) else (0, chkE M)
/-- Col's answer: the place and the error. -/
def atCol (M : Mo) (z : ByteArray) : Int × Int := if chkE M = 0 then plc (idx (fun j => (M.C j).nm) z M.ck 0) else (0, chkE M)
end Go.Proofs.YtlemkhgicdnlnaaGreat
namespace Go.Proofs.YtlemkhgicdnlnaaGreat
open Go.RowKit

/-- A bound of the reference. -/
structure Fn (w : World) (i : Int) (s : Bool) (x : Option Addr) (n : Nat) (d : Nat → Int) (y : Option Addr) (m : Nat) (g : Nat → Int) (q : Rat) : Prop where
  qn : Qn w s x n d y m g q
  inf : i = 0 ∨ (i = -1 ∨ i = 1) ∧ q = 0
theorem Fn.below {w w' i s x n d y m g q} (h : Fn w i s x n d y m g q) (hb : Below w.heap.size w w') : Fn w' i s x n d y m g q := ⟨h.qn.below hb, h.inf⟩
theorem Fn.alloc {w i s x n d y m g q} (h : Fn w i s x n d y m g q) (o : Obj) : Fn (w.alloc o) i s x n d y m g q := ⟨h.qn.alloc o, h.inf⟩

set_option maxRecDepth 100000 in
set_option maxHeartbeats 4000000 in
theorem xTo_c {w : World} {i : Int} {s : Bool} {x : Option Addr} {n c : Nat} {f : Nat → Int} {y : Option Addr} {m d : Nat} {g : Nat → Int} {q : Rat} (h : Fn w i s x n f y m g q) (hn : n ≤ 4096) (hm : m ≤ 4096) :
    Calls Tryz.prog 58 #[.agg #[.int .i64 i, .bool s, .slice x n c, .slice y m d]] w fun e w' => ∃ z k c' f z2 k2 c2 f2, e = .returned (.agg #[.int .i64 i, .bool s, .slice z k c', .slice z2 k2 c2]) ∧ Below w.heap.size w w' ∧ Hid (En (n + m) w' i s z k c' f z2 k2 c2 f2 q) := by
  have h1 := (bx4_at w (.int .i64 i) (.bool s) (.slice x n c) (.slice y m d) 105).alloc (.cells #[.int .i64 0, .bool false, .slice none 0 0, .slice none 0 0] 70)
  have h2 := ob4_new (w.alloc (.cells #[.int .i64 i, .bool s, .slice x n c, .slice y m d] 105)) 70
  rw [size_alloc1] at h2
  have h3 := below_alloc (below_alloc (Below.refl w.heap.size w) (.cells #[.int .i64 i, .bool s, .slice x n c, .slice y m d] 105)) (.cells #[.int .i64 0, .bool false, .slice none 0 0, .slice none 0 0] 70)
  have h4 := h.below h3
  clear h
  go_enter Tryz.func58, Tryz.ntmps58
  go_wp2_with fail
  generalize (w.alloc (.cells #[.int .i64 i, .bool s, .slice x n c, .slice y m d] 105)).alloc (.cells #[.int .i64 0, .bool false, .slice none 0 0, .slice none 0 0] 70) = w1 at *
  have HN := hid h4; have OB := hid h2; have HW := hid h3
  obtain ⟨z, x0, x1, x2, x3⟩ := h1
  obtain ⟨hz, z0, z1, z2, z3, zf⟩ := h2
  clear h3 h4
  have C1 : Hid (∀ W, Below w1.heap.size w1 W → Calls Tryz.prog 47 #[.agg #[.bool s, .slice x n c, .slice y m d]] W fun e w' => ∃ z k c' f z2 k2 c2 f2, e = .returned (.agg #[.bool s, .slice z k c', .slice z2 k2 c2]) ∧ Below W.heap.size W w' ∧ Hid (Rn (n + m) w' s z k c' f z2 k2 c2 f2 q)) := fun W hW => qToR_c (HN.out.below hW).qn (Nat.le_trans hn (by decide)) (Nat.le_trans hm (by decide))
  go_region_held3 (fun w' => w'.cell? ⟨w.heap.size, 0, none⟩ = some (.int .i64 i) ∧ w'.cell? ⟨w.heap.size, 1, none⟩ = some (.bool s) ∧ w'.cell? ⟨w.heap.size, 2, none⟩ = some (.slice x n c) ∧ w'.cell? ⟨w.heap.size, 3, none⟩ = some (.slice y m d) ∧ (w'.cell? ⟨w.heap.size + 1, 0, none⟩).isSome = true ∧ (w'.cell? ⟨w.heap.size + 1, 1, none⟩).isSome = true ∧ (w'.cell? ⟨w.heap.size + 1, 2, none⟩).isSome = true ∧ (w'.cell? ⟨w.heap.size + 1, 3, none⟩).isSome = true ∧ w'.frozen? ⟨w.heap.size + 1, 0, none⟩ = false ∧ w'.frozen? ⟨w.heap.size + 1, 1, none⟩ = false ∧ w'.frozen? ⟨w.heap.size + 1, 2, none⟩ = false ∧ w'.frozen? ⟨w.heap.size + 1, 3, none⟩ = false)
    (refine ⟨?_, ?_, ?_, ?_, ?_, ?_, ?_, ?_, ?_, ?_, ?_, ?_⟩ <;> repeat (with_reducible first | assumption | exact zf _ | exact tf _ | exact kI0 z0 | exact kI0 z1 | exact kI0 z2 | exact kI0 z3 | exact kI0 t0 | exact kI0 t1 | exact kI0 t2 | exact kI0 t3 | refine kCd ?_ | refine kId ?_ | refine kFd ?_ | refine kCs (by simp only [ne_eq]; omega) ?_ | refine kIs ?_ | refine kFs ?_ | refine kCb (by assumption) ?_ | refine kIb (by assumption) ?_))
    (first | (go_at_call 47; with_reducible refine (C1.out _ (by repeat (with_reducible first | assumption | exact Below.refl _ _ | refine Below.drew ?_ | refine kBb (by assumption) ?_))).mono ?_; rintro e v5 ⟨z5, k5, c5, f5, y5, m5, d5, g5, rfl, hb5, H5⟩; have Tt : Ob4 v5 (w.heap.size + 1) := (by repeat (with_reducible first | exact OB.out | refine Ob4.drew ?_ | refine kO4b (by assumption) ?_)); obtain ⟨_, t0, t1, t2, t3, tf⟩ := id Tt))
  all_goals
    have hb : Below w1.heap.size w1 v5 := (by repeat (with_reducible first | assumption | exact Below.refl _ _ | refine Below.drew ?_ | refine kBb (by assumption) ?_))
    go_wp2
    exact bodyPost_ret (v := .agg #[.int .i64 i, .bool s, .slice z5 k5 c5, .slice y5 m5 d5]) (by simp [results, Tryz.results58, go_sem, t0, t1, t2, t3]) rfl ⟨z5, k5, c5, f5, y5, m5, d5, g5, rfl, below_st4 (HW.out.trans (hb.mono HW.out.size)) (by omega), ⟨Tt.rn H5.out, HN.out.inf⟩⟩

set_option maxRecDepth 100000 in
set_option maxHeartbeats 4000000 in
theorem qZero4_c {w : World} : Calls Tryz.prog 96 #[] w fun e w' => ∃ s x n c d y m c' g, e = .returned (.agg #[.bool s, .slice x n c, .slice y m c']) ∧ Below w.heap.size w w' ∧ Hid (n ≤ 2 ∧ m ≤ 2 ∧ Qn w' s x n d y m g 0) := by
  have h2 := ob_new w 59
  have h3 := below_alloc (Below.refl w.heap.size w) (.cells #[.bool false, .slice none 0 0, .slice none 0 0] 59)
  go_enter Tryz.func96, Tryz.ntmps96
  go_wp2_with fail
  generalize w.alloc (.cells #[.bool false, .slice none 0 0, .slice none 0 0] 59) = w1 at *
  have OB := hid h2; have HW := hid h3
  clear h2 h3
  refine (qInt_c (z := 0) (by decide) (by decide)).mono ?_
  rintro e w2 ⟨s2, x2, n2, c2, d2, y2, m2, e2, g2, rfl, hb, hl1, hl2, hq⟩
  have HB := hid (HW.out.trans (hb.mono HW.out.size)); have OB2 := hid (OB.out.below hb); have HQ := hid hq
  clear hb hq
  obtain ⟨hz, z0, z1, z2, zf⟩ := OB2.out
  go_wp2
  exact bodyPost_ret (v := .agg #[.bool s2, .slice x2 n2 c2, .slice y2 m2 e2]) (by simp [results, Tryz.results96, go_sem, z0, z1, z2]) rfl ⟨s2, x2, n2, c2, d2, y2, m2, e2, g2, rfl, below_st HB.out (Nat.le_refl _), hl1, hl2, OB2.out.qn HQ.out⟩

set_option maxRecDepth 100000 in
set_option maxHeartbeats 4000000 in
theorem xLow_c {w : World} : Calls Tryz.prog 59 #[] w fun e w' => ∃ s x n c d y m c' g, e = .returned (.agg #[.int .i64 (-1), .bool s, .slice x n c, .slice y m c']) ∧ Below w.heap.size w w' ∧ Hid (n ≤ 2 ∧ m ≤ 2 ∧ Fn w' (-1) s x n d y m g 0) := by
  have h2 := ob4_new w 105
  have h3 := below_alloc (Below.refl w.heap.size w) (.cells #[.int .i64 0, .bool false, .slice none 0 0, .slice none 0 0] 105)
  go_enter Tryz.func59, Tryz.ntmps59
  go_wp2_with fail
  generalize w.alloc (.cells #[.int .i64 0, .bool false, .slice none 0 0, .slice none 0 0] 105) = w1 at *
  have OB := hid h2; have HW := hid h3
  clear h2 h3
  refine qZero4_c.mono ?_
  rintro e w2 ⟨s2, x2, n2, c2, d2, y2, m2, e2, g2, rfl, hb, H2⟩
  have HB := hid (HW.out.trans (hb.mono HW.out.size)); have OB2 := hid (OB.out.below hb)
  clear hb
  obtain ⟨hz, z0, z1, z2, z3, zf⟩ := OB2.out
  go_wp2
  exact bodyPost_ret (v := .agg #[.int .i64 (-1), .bool s2, .slice x2 n2 c2, .slice y2 m2 e2]) (by simp [results, Tryz.results59, go_sem, z0, z1, z2, z3]) rfl ⟨s2, x2, n2, c2, d2, y2, m2, e2, g2, rfl, below_st4 HB.out (Nat.le_refl _), H2.out.1, H2.out.2.1, ⟨OB2.out.qn H2.out.2.2, .inr ⟨by decide, rfl⟩⟩⟩

set_option maxRecDepth 100000 in
set_option maxHeartbeats 4000000 in
theorem xHigh_c {w : World} : Calls Tryz.prog 60 #[] w fun e w' => ∃ s x n c d y m c' g, e = .returned (.agg #[.int .i64 1, .bool s, .slice x n c, .slice y m c']) ∧ Below w.heap.size w w' ∧ Hid (n ≤ 2 ∧ m ≤ 2 ∧ Fn w' 1 s x n d y m g 0) := by
  have h2 := ob4_new w 105
  have h3 := below_alloc (Below.refl w.heap.size w) (.cells #[.int .i64 0, .bool false, .slice none 0 0, .slice none 0 0] 105)
  go_enter Tryz.func60, Tryz.ntmps60
  go_wp2_with fail
  generalize w.alloc (.cells #[.int .i64 0, .bool false, .slice none 0 0, .slice none 0 0] 105) = w1 at *
  have OB := hid h2; have HW := hid h3
  clear h2 h3
  refine qZero4_c.mono ?_
  rintro e w2 ⟨s2, x2, n2, c2, d2, y2, m2, e2, g2, rfl, hb, H2⟩
  have HB := hid (HW.out.trans (hb.mono HW.out.size)); have OB2 := hid (OB.out.below hb)
  clear hb
  obtain ⟨hz, z0, z1, z2, z3, zf⟩ := OB2.out
  go_wp2
  exact bodyPost_ret (v := .agg #[.int .i64 1, .bool s2, .slice x2 n2 c2, .slice y2 m2 e2]) (by simp [results, Tryz.results60, go_sem, z0, z1, z2, z3]) rfl ⟨s2, x2, n2, c2, d2, y2, m2, e2, g2, rfl, below_st4 HB.out (Nat.le_refl _), H2.out.1, H2.out.2.1, ⟨OB2.out.qn H2.out.2.2, .inr ⟨by decide, rfl⟩⟩⟩

end Go.Proofs.YtlemkhgicdnlnaaGreat
namespace Go.Proofs.YtlemkhgicdnlnaaGreat
open Go.RowKit

/-- A list of two bounds. -/
structure Li2 (w : World) (B : Nat) (a0 a1 a2 a3 b0 b1 b2 b3 : Value) : Prop where
  z : B < w.heap.size
  x0 : w.cell? ⟨B, 0, none⟩ = some a0
  x1 : w.cell? ⟨B, 1, none⟩ = some a1
  x2 : w.cell? ⟨B, 2, none⟩ = some a2
  x3 : w.cell? ⟨B, 3, none⟩ = some a3
  y0 : w.cell? ⟨B, 4, none⟩ = some b0
  y1 : w.cell? ⟨B, 5, none⟩ = some b1
  y2 : w.cell? ⟨B, 6, none⟩ = some b2
  y3 : w.cell? ⟨B, 7, none⟩ = some b3
theorem Li2.below {w w' B a0 a1 a2 a3 b0 b1 b2 b3} (h : Li2 w B a0 a1 a2 a3 b0 b1 b2 b3) (hb : Below w.heap.size w w') : Li2 w' B a0 a1 a2 a3 b0 b1 b2 b3 := ⟨Nat.lt_of_lt_of_le h.z hb.size, kCb hb h.x0, kCb hb h.x1, kCb hb h.x2, kCb hb h.x3, kCb hb h.y0, kCb hb h.y1, kCb hb h.y2, kCb hb h.y3⟩
theorem li2_at (w : World) (a0 a1 a2 a3 b0 b1 b2 b3 : Value) (t : TypeId) : Li2 (w.alloc (.cells #[a0, a1, a2, a3, b0, b1, b2, b3] t)) w.heap.size a0 a1 a2 a3 b0 b1 b2 b3 := ⟨by simp, by simp [go_sem], by simp [go_sem], by simp [go_sem], by simp [go_sem], by simp [go_sem], by simp [go_sem], by simp [go_sem], by simp [go_sem]⟩

set_option maxRecDepth 100000 in
set_option maxHeartbeats 4000000 in
theorem allForm2_c {w : World} {i1 : Int} {s1 : Bool} {x1 : Option Addr} {n1 c1 : Nat} {f1 : Nat → Int} {y1 : Option Addr} {m1 d1 : Nat} {g1 : Nat → Int} {i2 : Int} {s2 : Bool} {x2 : Option Addr} {n2 c2 : Nat} {f2 : Nat → Int} {y2 : Option Addr} {m2 d2 : Nat} {g2 : Nat → Int} {B : Nat} (hB : Li2 w B (.int .i64 i1) (.bool s1) (.slice x1 n1 c1) (.slice y1 m1 d1) (.int .i64 i2) (.bool s2) (.slice x2 n2 c2) (.slice y2 m2 d2)) (h1 : Rw w x1 n1 c1 f1 y1 m1 d1 g1) (h2 : Rw w x2 n2 c2 f2 y2 m2 d2 g2) (hn1 : n1 ≤ 4096) (hm1 : m1 ≤ 4096) (hn2 : n2 ≤ 4096) (hm2 : m2 ≤ 4096) :
    Calls Tryz.prog 137 #[.slice (some ⟨B, 0, none⟩) 2 2] w fun e w' => e = .returned (.bool (efB i1 s1 f1 n1 g1 m1 && efB i2 s2 f2 n2 g2 m2)) ∧ Below w.heap.size w w' := by
  have HB := hid hB; have HR1 := hid h1; have HR2 := hid h2
  obtain ⟨p, hp⟩ : ∃ p, efB i1 s1 f1 n1 g1 m1 = p := ⟨_, rfl⟩
  obtain ⟨q, hq⟩ : ∃ p, efB i2 s2 f2 n2 g2 m2 = p := ⟨_, rfl⟩
  have HP := hid hp; have HQ := hid hq
  rw [hp, hq]
  clear hB h1 h2 hp hq
  go_enter Tryz.func137, Tryz.ntmps137
  go_wp2
  go_loopw [7] (fun t wr => ∃ k : Nat, k ≤ 2 ∧ t = .int .i64 k ∧ Hid (Below w.heap.size w wr ∧ (0 < k → p = true) ∧ (1 < k → q = true))) (fun t _ => 2 - (intOf t).toNat)
  case atStart => exact ⟨0, by omega, rfl, Below.refl _ _, fun h => by omega, fun h => by omega⟩
  case round =>
    obtain ⟨k, hk, rfl, HI⟩ := hrel
    have HBr := hid HI.out.1
    rcases (show k = 0 ∨ k = 1 ∨ k = 2 by omega) with rfl | rfl | rfl
    · obtain ⟨z, e0, e1, e2, e3, _, _, _, _⟩ := HB.out.below HBr.out
      have c1 := eForm_c (i := i1) (s := s1) ((HR1.out.below HBr.out).alloc (.cells #[.int .i64 i1, .bool s1, .slice x1 n1 c1, .slice y1 m1 d1] 70)) hn1 hm1
      rw [HP.out] at c1
      have C1 := hid c1
      clear c1
      cases p
      · go_wp2_with fail
        refine C1.out.mono ?_
        rintro e w2 ⟨rfl, hb⟩
        have HW := hid ((below_alloc HBr.out _).trans (hb.mono (below_alloc HBr.out _).size))
        clear hb
        go_wp2
        go_ret
        exact ⟨rfl, HW.out⟩
      · go_wp2_with fail
        refine C1.out.mono ?_
        rintro e w2 ⟨rfl, hb⟩
        have HW := hid ((below_alloc HBr.out _).trans (hb.mono (below_alloc HBr.out _).size))
        clear hb
        go_wp2
        go_roundw
        case rel => exact ⟨1, by omega, by go_num, HW.out, by simp, by simp⟩
        case measure => simp [intOf]
    · obtain ⟨z, _, _, _, _, e0, e1, e2, e3⟩ := HB.out.below HBr.out
      have hpt := HI.out.2.1 (by omega)
      subst hpt
      have c1 := eForm_c (i := i2) (s := s2) ((HR2.out.below HBr.out).alloc (.cells #[.int .i64 i2, .bool s2, .slice x2 n2 c2, .slice y2 m2 d2] 70)) hn2 hm2
      rw [HQ.out] at c1
      have C1 := hid c1
      clear c1
      cases q
      · go_wp2_with fail
        refine C1.out.mono ?_
        rintro e w2 ⟨rfl, hb⟩
        have HW := hid ((below_alloc HBr.out _).trans (hb.mono (below_alloc HBr.out _).size))
        clear hb
        go_wp2
        go_ret
        exact ⟨rfl, HW.out⟩
      · go_wp2_with fail
        refine C1.out.mono ?_
        rintro e w2 ⟨rfl, hb⟩
        have HW := hid ((below_alloc HBr.out _).trans (hb.mono (below_alloc HBr.out _).size))
        clear hb
        go_wp2
        go_roundw
        case rel => exact ⟨2, by omega, by go_num, HW.out, by simp, by simp⟩
        case measure => simp [intOf]
    · have hpt := HI.out.2.1 (by omega)
      have hqt := HI.out.2.2 (by omega)
      subst hpt hqt
      go_wp2
      go_ret
      exact ⟨rfl, HBr.out⟩

/-- What Cmp answers. -/
def OC (p : Bool) (i : Int) (a : Rat) (j : Int) (b : Rat) (r er : Int) : Prop := p = false ∧ er = 3 ∧ r = 0 ∨ p = true ∧ er = 0 ∧ EOrd r i a j b
end Go.Proofs.YtlemkhgicdnlnaaGreat
namespace Go.Proofs.YtlemkhgicdnlnaaGreat
open Go.RowKit

/-- The number itself, of one in form. -/
def nq (t : Nm) : Rat := mkRat (wv t.s t.f t.n) (wv false t.g t.m).toNat
theorem Rn.nq {L w q} {t : Nm} (h : Rn L w t.s t.x t.n t.c t.f t.y t.m t.d t.g q) : nq t = q := by
  unfold Go.Proofs.YtlemkhgicdnlnaaGreat.nq
  rw [h.num.val, h.den.val, Int.toNat_natCast, Rat.mkRat_self]
/-- The first bound is above the second. -/
def abvB (a b : Ex) : Bool := decide (b.i < a.i) || (decide (a.i = b.i) && decide (nq b.v < nq a.v))
theorem NmS.en {w : World} {e : Ex} (h : NmS w e.v) (hf : exF e = true) (hn : e.v.n ≤ 100) (hm : e.v.m ≤ 100) : En 100 w e.i e.v.s e.v.x e.v.n e.v.c e.v.f e.v.y e.v.m e.v.d e.v.g (nq e.v) := by
  obtain ⟨q, hq⟩ := h.1.en hf hn hm
  rw [hq.rn.nq]; exact hq
end Go.Proofs.YtlemkhgicdnlnaaGreat
namespace Go.Proofs.YtlemkhgicdnlnaaGreat
open Go.RowKit

theorem Tryz.infoInt : (Tryz.prog.info? 3).map (fun i => (i.zero, i.size, i.bytes)) = some (some (.int .i64 0), 1, 8) := by kernel_rfl
theorem onei (s : Int) : ∀ u ∈ (#[Value.int .i64 s] : Array Value).toList, u.oneCell' = true := by
  intro u hu; simp at hu; subst hu; rfl
theorem noti (s : Int) : ∀ u ∈ (#[Value.int .i64 s] : Array Value).toList, ∀ q, u ≠ .int .u64 q := by
  intro u hu q; simp at hu; subst hu; simp
theorem nzi : NoU (Value.int .i64 0).cells := nou_list (l := [Value.int .i64 0]) (noti 0)
/-- A list of numbers in memory. -/
def Il (w : World) (ao : Option Addr) (l : List Int) : Prop := ∀ j v, l[j]? = some v → ∃ b o, ao = some ⟨b, o, none⟩ ∧ w.cell? ⟨b, o + j, none⟩ = some (.int .i64 v)
theorem Il.below {w w' ao l} (h : Il w ao l) (hb : Below w.heap.size w w') : Il w' ao l := fun j v e => by
  obtain ⟨b, o, e1, h1⟩ := h j v e
  exact ⟨b, o, e1, kCb hb h1⟩
def ils (l : List Int) : List Value := l.map (Value.int .i64)
theorem rowg_il {e : TypeId} {base : Nat} {w : World} {ao : Option Addr} {cap : Nat} {l : List Int} (h : RowG e 1 base w (.slice ao l.length cap) l.length (ils l)) : Il w ao l := fun j v hj => by
  have hlt : j < l.length := (List.getElem?_eq_some_iff.1 hj).1
  rcases h.2 with ⟨hv, h0⟩ | ⟨g, cap', cur, hv, _⟩
  · omega
  · cases hv
    refine ⟨g, 0, rfl, ?_⟩
    rw [Nat.zero_add]
    exact h.cells (by simp [ils, hj])
/-- The places below i where B holds. -/
def crl (B : Nat → Bool) : Nat → List Int
  | 0 => []
  | i + 1 => crl B i ++ (if B i then [(i : Int)] else [])
theorem crl_len (B : Nat → Bool) : ∀ i, (crl B i).length ≤ i
  | 0 => Nat.le_refl _
  | i + 1 => by
    have := crl_len B i
    unfold crl
    rw [List.length_append]
    split <;> simp <;> omega
theorem crl_yes {B : Nat → Bool} {i : Nat} (h : B i = true) : crl B (i + 1) = crl B i ++ [(i : Int)] := by simp [crl, h]
theorem crl_no {B : Nat → Bool} {i : Nat} (h : B i = false) : crl B (i + 1) = crl B i := by simp [crl, h]
/-- Which columns, which rows are crossed. -/
def ccB (C : Nat → Lc) (j : Nat) : Bool := abvB (C j).lo (C j).hi
def rcB (R : Nat → Lr) (j : Nat) : Bool := abvB (R j).lo (R j).hi
end Go.Proofs.YtlemkhgicdnlnaaGreat
namespace Go.Proofs.YtlemkhgicdnlnaaGreat
open Go.RowKit

end Go.Proofs.YtlemkhgicdnlnaaGreat
namespace Go.Proofs.YtlemkhgicdnlnaaGreat
open Go.RowKit

def Lc.val (c : Lc) : Value := .agg c.vs.toArray
end Go.Proofs.YtlemkhgicdnlnaaGreat
namespace Go.Proofs.YtlemkhgicdnlnaaGreat
open Go.RowKit

def Ex.vs (e : Ex) : List Value := [.int .i64 e.i, .bool e.v.s, .slice e.v.x e.v.n e.v.c, .slice e.v.y e.v.m e.v.d]
def Lr.val (c : Lr) : Value := .agg c.vs.toArray
end Go.Proofs.YtlemkhgicdnlnaaGreat
namespace Go.Proofs.YtlemkhgicdnlnaaGreat
open Go.RowKit

def lstep (l e : Int) : Int := if l = 0 ∨ e ≠ 0 ∧ e < l then e else l
/-- The least of the first i errors. -/
def lsf (E : Nat → Int) : Nat → Int
  | 0 => 0
  | i + 1 => lstep (lsf E i) (E i)
def El (w : World) (ao : Option Addr) (k : Nat) (E : Nat → Int) : Prop := ∀ j, j < k → ∃ b o, ao = some ⟨b, o, none⟩ ∧ w.cell? ⟨b, o + j, none⟩ = some (.int .i64 (E j))
set_option maxRecDepth 100000 in
set_option maxHeartbeats 2000000 in
theorem least_c {w : World} {ao : Option Addr} {k cap : Nat} {E : Nat → Int} (h : El w ao k E) (hk : k ≤ 1048576) :
    Calls Tryz.prog 41 #[.slice ao k cap] w fun e w' => e = .returned (.int .i64 (lsf E k)) ∧ w' = w := by
  have H := hid h
  clear h
  go_enter Tryz.func41, Tryz.ntmps41
  go_wp2_with fail
  go_loopw [3, 8] (fun l t wr => ∃ (i : Nat) (v : Int), i ≤ k ∧ t = .int .i64 i ∧ l = .int .i64 v ∧ wr = w ∧ Hid (lsf E i = v)) (fun _ t _ => k - (intOf t).toNat)
  case atStart => exact ⟨0, 0, by omega, rfl, rfl, rfl, rfl⟩
  case round =>
    obtain ⟨i, v, hi, rfl, rfl, rfl, HI⟩ := hrel
    by_cases hlt : i < k
    · obtain ⟨b, o, rfl, hc⟩ := H.out i hlt
      obtain ⟨e, he⟩ : ∃ e, E i = e := ⟨_, rfl⟩
      have hT : lsf E (i + 1) = lstep v e := by show lstep (lsf E i) (E i) = _; rw [HI.out, he]
      rw [he] at hc
      have i1 : ((i : Nat) : Int) < ((k : Nat) : Int) := by omega
      clear he
      by_cases h0 : v = 0
      · subst h0
        have HT := hid (show lsf E (i + 1) = e from by rw [hT]; simp [lstep])
        clear hT
        go_wp2
        go_roundw
        case rel => exact ⟨i + 1, e, by omega, by go_num, rfl, trivial, HT.out⟩
        case measure => simp [intOf]; omega
      · have e0 : (v == 0) = false := by simpa using h0
        by_cases h1 : e = 0
        · subst h1
          have HT := hid (show lsf E (i + 1) = v from by rw [hT]; simp [lstep, h0])
          clear hT
          go_wp2
          go_roundw
          case rel => exact ⟨i + 1, v, by omega, by go_num, rfl, trivial, HT.out⟩
          case measure => simp [intOf]; omega
        · have e2 : (e != 0) = true := by simp [h1]
          by_cases h2 : e < v
          · have HT := hid (show lsf E (i + 1) = e from by rw [hT]; simp [lstep, h1, h2])
            clear hT
            go_wp2
            go_roundw
            case rel => exact ⟨i + 1, e, by omega, by go_num, rfl, trivial, HT.out⟩
            case measure => simp [intOf]; omega
          · have HT := hid (show lsf E (i + 1) = v from by rw [hT]; simp [lstep, h0, h2])
            clear hT
            go_wp2
            go_roundw
            case rel => exact ⟨i + 1, v, by omega, by go_num, rfl, trivial, HT.out⟩
            case measure => simp [intOf]; omega
    · have e1 : i = k := by omega
      have i2 : ¬ (((i : Nat) : Int) < ((k : Nat) : Int)) := by omega
      rw [e1] at HI
      clear e1
      go_wp2
      go_ret
      refine ⟨?_, rfl⟩
      rw [HI.out]; rfl
def two (a b : Int) (j : Nat) : Int := if j = 0 then a else b
theorem two_el {w : World} {a b : Int} {t : TypeId} : El (w.alloc (.cells #[.int .i64 a, .int .i64 b] t)) (some ⟨w.heap.size, 0, none⟩) 2 (two a b) := fun j hj => by
  refine ⟨_, 0, rfl, ?_⟩
  match j, hj with
  | 0, _ => simp [go_sem, two]
  | 1, _ => simp [go_sem, two]
end Go.Proofs.YtlemkhgicdnlnaaGreat
namespace Go.Proofs.YtlemkhgicdnlnaaGreat
open Go.RowKit

end Go.Proofs.YtlemkhgicdnlnaaGreat
namespace Go.Proofs.YtlemkhgicdnlnaaGreat
open Go.RowKit

end Go.Proofs.YtlemkhgicdnlnaaGreat
namespace Go.Proofs.YtlemkhgicdnlnaaGreat
open Go.RowKit

theorem rLightK_c (K : Nat) (s : Bool) (x y : Option Addr) (n c m d : Nat) (w : World) :
    Calls Tryz.prog 16 #[.agg #[.bool s, .slice x n c, .slice y m d], .int .i64 K] w fun e w' => e = .returned (.bool (lg n m K)) ∧ Below w.heap.size w w' := by
  by_cases h1 : n ≤ K
  · have d1 : decide ((n : Int) ≤ (K : Int)) = true := by simp; omega
    by_cases h2 : m ≤ K
    · have d2 : decide ((m : Int) ≤ (K : Int)) = true := by simp; omega
      rw [show lg n m K = true by simp [lg, h1, h2]]
      go_enter Tryz.func16, Tryz.ntmps16
      go_wp2
      go_ret
      exact ⟨rfl, below_alloc (Below.refl _ _) _⟩
    · have d2 : decide ((m : Int) ≤ (K : Int)) = false := by simp; omega
      rw [show lg n m K = false by simp [lg, h2]]
      go_enter Tryz.func16, Tryz.ntmps16
      go_wp2
      go_ret
      exact ⟨rfl, below_alloc (Below.refl _ _) _⟩
  · have d1 : decide ((n : Int) ≤ (K : Int)) = false := by simp; omega
    rw [show lg n m K = false by simp [lg, h1]]
    go_enter Tryz.func16, Tryz.ntmps16
    go_wp2
    go_ret
    exact ⟨rfl, below_alloc (Below.refl _ _) _⟩

/-- A list of k terms, of k numbers, that can be read, whatever they are and however long. -/
def Tr (w : World) (ao : Option Addr) (k : Nat) (col : Nat → Int) (T : Nat → Nm) : Prop :=
  ∀ j, j < k → ∃ b o, ao = some ⟨b, o, none⟩ ∧ C4 w b (o + j * 4) (.int .i64 (col j)) (.bool (T j).s) (.slice (T j).x (T j).n (T j).c) (.slice (T j).y (T j).m (T j).d) ∧ Rw w (T j).x (T j).n (T j).c (T j).f (T j).y (T j).m (T j).d (T j).g
def Rr (w : World) (ao : Option Addr) (k : Nat) (X : Nat → Nm) : Prop :=
  ∀ j, j < k → ∃ b o, ao = some ⟨b, o, none⟩ ∧ C3 w b (o + j * 3) (.bool (X j).s) (.slice (X j).x (X j).n (X j).c) (.slice (X j).y (X j).m (X j).d) ∧ Rw w (X j).x (X j).n (X j).c (X j).f (X j).y (X j).m (X j).d (X j).g
theorem Tr.below {w w' ao k col T} (h : Tr w ao k col T) (hb : Below w.heap.size w w') : Tr w' ao k col T := fun j hj => by
  obtain ⟨b, o, e, h1, h2⟩ := h j hj
  exact ⟨b, o, e, h1.below hb, h2.below hb⟩
theorem Rr.below {w w' ao k X} (h : Rr w ao k X) (hb : Below w.heap.size w w') : Rr w' ao k X := fun j hj => by
  obtain ⟨b, o, e, h1, h2⟩ := h j hj
  exact ⟨b, o, e, h1.below hb, h2.below hb⟩
/-- All numbers from number i on have at most K limbs. -/
def nlg (K : Nat) (X : Nat → Nm) : Nat → Nat → Bool
  | 0, _ => true
  | r + 1, i => lg (X i).n (X i).m K && nlg K X r (i + 1)
theorem nlg_all {K : Nat} {X : Nat → Nm} : ∀ {r i : Nat}, nlg K X r i = true → ∀ j, i ≤ j → j < i + r → (X j).n ≤ K ∧ (X j).m ≤ K := by
  intro r
  induction r with
  | zero => intro i _ j h1 h2; omega
  | succ r ih =>
    intro i h j hj hj2
    simp only [nlg, lg, Bool.and_eq_true, decide_eq_true_eq] at h
    by_cases e : j = i
    · subst e; exact h.1
    · exact ih h.2 j (by omega) (by omega)
theorem Tr.tl {w ao k col T} {K : Nat} (h : Tr w ao k col T) (hl : nlg K T k 0 = true) (hK : K ≤ 65536) : Tl w ao k col T := fun j hj => by
  obtain ⟨b, o, e, h1, h2⟩ := h j hj
  obtain ⟨h3, h4⟩ := nlg_all hl j (by omega) (by omega)
  exact ⟨b, o, e, h1, h2, by omega, by omega⟩
theorem Rr.rl {w ao k X} {K : Nat} (h : Rr w ao k X) (hl : nlg K X k 0 = true) (hK : K ≤ 65536) : Rl w ao k X := fun j hj => by
  obtain ⟨b, o, e, h1, h2⟩ := h j hj
  obtain ⟨h3, h4⟩ := nlg_all hl j (by omega) (by omega)
  exact ⟨b, o, e, h1, h2, by omega, by omega⟩

set_option maxRecDepth 100000 in
set_option maxHeartbeats 4000000 in
theorem rLights_c {w : World} {ao : Option Addr} {k cap : Nat} {X : Nat → Nm} (K : Nat) (h : Rr w ao k X) (hk : k ≤ 9223372036854775807) :
    Calls Tryz.prog 31 #[.slice ao k cap, .int .i64 K] w fun e w' => e = .returned (.bool (decide (k ≤ 300) && nlg K X k 0)) ∧ Below w.heap.size w w' := by
  have H := hid h
  clear h
  by_cases h300 : k ≤ 300
  · have i0 : ¬ ((300 : Int) < ((k : Nat) : Int)) := by omega
    rw [show (decide (k ≤ 300) && nlg K X k 0) = nlg K X k 0 by simp [h300]]
    go_enter Tryz.func31, Tryz.ntmps31
    go_wp2_with fail
    go_loopw [12] (fun t wr => ∃ (i : Nat), i ≤ k ∧ t = .int .i64 i ∧ Hid (Below w.heap.size w wr) ∧ Hid (nlg K X k 0 = nlg K X (k - i) i)) (fun t _ => k - (intOf t).toNat)
    case atStart => exact ⟨0, by omega, rfl, Below.refl _ _, rfl⟩
    case round =>
      obtain ⟨i, hi, rfl, HB, HT⟩ := hrel
      by_cases hlt : i < k
      · obtain ⟨b, o, rfl, hc, hn⟩ := (H.out.below HB.out) i hlt
        obtain ⟨r, hr⟩ : ∃ r, k - i = r + 1 := ⟨k - i - 1, by omega⟩
        have hT : nlg K X k 0 = (lg (X i).n (X i).m K && nlg K X r (i + 1)) := by rw [HT.out, hr]; rfl
        have hr2 : k - (i + 1) = r := by omega
        obtain ⟨⟨s, x, n, c, f, y, m, d, g⟩, hTi⟩ : ∃ t, X i = t := ⟨_, rfl⟩
        rw [hTi] at hc hn hT
        obtain ⟨x0, x1, x2⟩ := hc
        replace x0 : wr.cell? ⟨b, o + i * 3, none⟩ = some (.bool s) := x0
        replace x1 : wr.cell? ⟨b, o + i * 3 + 1, none⟩ = some (.slice x n c) := x1
        replace x2 : wr.cell? ⟨b, o + i * 3 + 2, none⟩ = some (.slice y m d) := x2
        have HTi := hid hT; have HR2 := hid hr2
        have i1 : ((i : Nat) : Int) < ((k : Nat) : Int) := by omega
        clear hT hr2 hTi hr hn
        go_wp2_with fail
        refine (rLightK_c K s x y n c m d _).mono ?_
        rintro e w1 ⟨rfl, hb1⟩
        obtain ⟨_, _, _, _, hb2⟩ := box3 hb1
        have HB2 := hid (HB.out.trans (hb2.mono HB.out.size))
        clear hb1 hb2
        cases hf : lg n m K
        · have HF := hid hf
          clear hf
          go_wp2
          go_ret
          refine ⟨?_, HB2.out⟩
          rw [HTi.out]
          show _ = Ending.returned (.bool (lg n m K && _))
          rw [HF.out]; rfl
        · have HF := hid hf
          clear hf
          go_wp2
          go_roundw
          case rel =>
            refine ⟨i + 1, by omega, by go_num, HB2.out, ?_⟩
            show _ = _
            rw [HTi.out, HR2.out]
            show (lg n m K && _) = _
            rw [HF.out]; rfl
          case measure => simp [intOf]; omega
      · have e1 : i = k := by omega
        have HTe : Hid (nlg K X k 0 = true) := by
          show _ = _
          rw [HT.out, e1, Nat.sub_self]; rfl
        have i2 : ¬ (((i : Nat) : Int) < ((k : Nat) : Int)) := by omega
        clear e1 HT
        go_wp2
        go_ret
        refine ⟨?_, HB.out⟩
        rw [HTe.out]; rfl
  · have i0 : (300 : Int) < ((k : Nat) : Int) := by omega
    rw [show (decide (k ≤ 300) && nlg K X k 0) = false by simp [h300]]
    go_enter Tryz.func31, Tryz.ntmps31
    go_wp2
    go_ret
    exact ⟨rfl, Below.refl _ _⟩

end Go.Proofs.YtlemkhgicdnlnaaGreat
namespace Go.Proofs.YtlemkhgicdnlnaaGreat
open Go.RowKit

end Go.Proofs.YtlemkhgicdnlnaaGreat
namespace Go.Proofs.YtlemkhgicdnlnaaGreat
open Go.RowKit

/-- The same number elsewhere. -/
def Sn (t t' : Nm) : Prop := t'.s = t.s ∧ t'.n = t.n ∧ t'.f = t.f ∧ t'.m = t.m ∧ t'.g = t.g
theorem Sn.nfB {t t' : Nm} (h : Sn t t') : nfB t' = nfB t := by
  obtain ⟨h1, h2, h3, h4, h5⟩ := h
  unfold Go.Proofs.YtlemkhgicdnlnaaGreat.nfB
  rw [h1, h2, h3, h4, h5]
theorem Rn.sn {L : Nat} {w w' : World} {t t' : Nm} {q : Rat} (h : Rn L w t.s t.x t.n t.c t.f t.y t.m t.d t.g q) (hs : Sn t t') (hr : Rw w' t'.x t'.n t'.c t'.f t'.y t'.m t'.d t'.g) : Rn L w' t'.s t'.x t'.n t'.c t'.f t'.y t'.m t'.d t'.g q := by
  obtain ⟨s, x, n, c, f, y, m, d, g⟩ := t
  obtain ⟨s', x', n', c', f', y', m', d', g'⟩ := t'
  obtain ⟨rfl, rfl, rfl, rfl, rfl⟩ := hs
  exact ⟨⟨hr.rx, hr.lx, h.num.wf, hr.cx, hr.nx, h.num.val⟩, ⟨hr.ry, hr.ly, h.den.wf, hr.cy, hr.ny, h.den.val⟩, h.ln, h.ld⟩

end Go.Proofs.YtlemkhgicdnlnaaGreat
namespace Go.Proofs.YtlemkhgicdnlnaaGreat
open Go.RowKit

end Go.Proofs.YtlemkhgicdnlnaaGreat
namespace Go.Proofs.YtlemkhgicdnlnaaGreat
open Go.RowKit

end Go.Proofs.YtlemkhgicdnlnaaGreat
namespace Go.Proofs.YtlemkhgicdnlnaaGreat
open Go.RowKit

end Go.Proofs.YtlemkhgicdnlnaaGreat
namespace Go.Proofs.YtlemkhgicdnlnaaGreat
open Go.RowKit

/-- A list of terms elsewhere than what has turned. -/
theorem Tl.of {w w' ao k col T} (h : Tl w ao k col T) (hb : ∀ b o s, ao = some ⟨b, o, s⟩ → w'.heap[b]? = w.heap[b]?) (hk : Kp w w') : Tl w' ao k col T := fun j hj => by
  obtain ⟨b, o, e, ⟨c0, c1, c2, c3⟩, h2, h3⟩ := h j hj
  have := hb b o none e
  exact ⟨b, o, e, ⟨(World.cell?_of_block (a := ⟨b, o + j * 4, none⟩) this).trans c0, (World.cell?_of_block (a := ⟨b, o + j * 4 + 1, none⟩) this).trans c1, (World.cell?_of_block (a := ⟨b, o + j * 4 + 2, none⟩) this).trans c2, (World.cell?_of_block (a := ⟨b, o + j * 4 + 3, none⟩) this).trans c3⟩, h2.kp hk, h3⟩
end Go.Proofs.YtlemkhgicdnlnaaGreat
namespace Go.Proofs.YtlemkhgicdnlnaaGreat
open Go.RowKit

/-- Where operation j puts what it yields. -/
def dstOf (ops : Array Oper) (j : Nat) : Option Tmp := (ops[j]?).bind (·.dst)
/-- The operations that operation i waits for. -/
def depsOf (md : Region.Mode) (ops : Array Oper) (i : Nat) : List Nat := match ops[i]? with
  | none => []
  | some o => (o.after.toList.filter (Region.binds md)).map (·.on)
/-- All that those of l wait for, n steps back. -/
def ancs (md : Region.Mode) (ops : Array Oper) : Nat → List Nat → List Nat
  | 0, _ => []
  | n + 1, l => (l.flatMap (depsOf md ops)).eraseDups ++ ancs md ops n (l.flatMap (depsOf md ops)).eraseDups
/-- The state with what those of D (an operation, its slot) yield. -/
def fill (a : Act) (D : List (Nat × Tmp)) (u : Nat → Value) : Act := D.foldl (fun a p => a.put (some p.2) (u p.1)) a
/-- What lies in those slots. -/
def lies (a : Act) (D : List (Nat × Tmp)) (j : Nat) : Value := match D.lookup j with
  | some d => a.tmps.getD d undef
  | none => undef
def updV (u : Nat → Value) (i : Nat) (v : Value) : Nat → Value := fun j => if j = i then v else u j
theorem updV_at (u : Nat → Value) (i : Nat) (v : Value) : updV u i v i = v := by simp [updV]
theorem updV_ne {u : Nat → Value} {i j : Nat} {v : Value} (h : j ≠ i) : updV u i v j = u j := by simp [updV, h]
theorem put_same (a : Act) (d : Tmp) (x y : Value) : (a.put (some d) x).put (some d) y = a.put (some d) y := by
  simp [Act.put]
theorem put_other (a : Act) {d e : Tmp} (h : d ≠ e) (x y : Value) : (a.put (some d) x).put (some e) y = (a.put (some e) y).put (some d) x := by
  simp only [Act.put]
  congr 1
  exact Array.setIfInBounds_comm _ _ h
theorem put_lies (a : Act) (d : Tmp) : a.put (some d) (a.tmps.getD d undef) = a := by
  obtain ⟨t, ds⟩ := a
  simp only [Act.put]
  congr 1
  apply Array.ext_getElem?
  intro i
  rw [Array.getElem?_setIfInBounds]
  split
  · rename_i h
    subst h
    split
    · rename_i h2; simp [h2]
    · rename_i h2; rw [Array.getElem?_eq_none (by omega)]
  · rfl
theorem fill_other {D : List (Nat × Tmp)} {d : Tmp} {u : Nat → Value} (v : Value) : ∀ {a : Act}, d ∉ D.map Prod.snd → (fill a D u).put (some d) v = fill (a.put (some d) v) D u := by
  induction D with
  | nil => intro a _; rfl
  | cons p D ih =>
    intro a h
    simp only [List.map_cons, List.mem_cons, not_or] at h
    show (fill (a.put (some p.2) (u p.1)) D u).put (some d) v = fill ((a.put (some d) v).put (some p.2) (u p.1)) D u
    rw [ih h.2, put_other a (Ne.symm h.1)]
theorem fill_congr {D : List (Nat × Tmp)} {u u' : Nat → Value} : ∀ {a : Act}, (∀ p, p ∈ D → u p.1 = u' p.1) → fill a D u = fill a D u' := by
  induction D with
  | nil => intro a _; rfl
  | cons p D ih =>
    intro a h
    show fill (a.put (some p.2) (u p.1)) D u = fill (a.put (some p.2) (u' p.1)) D u'
    rw [h p (by simp), ih (fun q hq => h q (by simp [hq]))]
theorem fill_put {D : List (Nat × Tmp)} {i : Nat} {d : Tmp} {u : Nat → Value} (v : Value) : ∀ {a : Act}, (D.map Prod.fst).Nodup → (D.map Prod.snd).Nodup → (i, d) ∈ D → (fill a D u).put (some d) v = fill a D (updV u i v) := by
  induction D with
  | nil => intro a _ _ h; cases h
  | cons p D ih =>
    intro a h1 h2 h
    simp only [List.map_cons, List.nodup_cons] at h1 h2
    show (fill (a.put (some p.2) (u p.1)) D u).put (some d) v = fill (a.put (some p.2) (updV u i v p.1)) D (updV u i v)
    by_cases e : p.1 = i
    · have hp : p = (i, d) := by
        rcases List.mem_cons.1 h with h | h
        · exact h.symm
        · exact absurd (by rw [e]; exact List.mem_map_of_mem (f := Prod.fst) h) h1.1
      subst hp
      rw [fill_other v h2.1, put_same, updV_at]
      exact fill_congr (fun q hq => (updV_ne (fun e => h1.1 (by show i ∈ _; rw [← e]; exact List.mem_map_of_mem (f := Prod.fst) hq))).symm)
    · have hm : (i, d) ∈ D := by
        rcases List.mem_cons.1 h with h | h
        · exact absurd (by rw [← h]) e
        · exact h
      rw [ih h1.2 h2.2 hm, updV_ne e]
theorem fill_lies {D : List (Nat × Tmp)} {u : Nat → Value} {a : Act} (h : ∀ p, p ∈ D → u p.1 = a.tmps.getD p.2 undef) : fill a D u = a := by
  induction D with
  | nil => rfl
  | cons p D ih =>
    show fill (a.put (some p.2) (u p.1)) D u = a
    rw [h p (by simp), put_lies]
    exact ih (fun q hq => h q (by simp [hq]))
theorem lies_at {D : List (Nat × Tmp)} {a : Act} : (D.map Prod.fst).Nodup → ∀ p, p ∈ D → lies a D p.1 = a.tmps.getD p.2 undef := by
  intro hn p hp
  have : D.lookup p.1 = some p.2 := by
    induction D with
    | nil => cases hp
    | cons x D ih =>
      simp only [List.map_cons, List.nodup_cons] at hn
      rcases List.mem_cons.1 hp with rfl | hp
      · simp [List.lookup]
      · have hne : p.1 ≠ x.1 := fun e => hn.1 (e ▸ List.mem_map_of_mem (f := Prod.fst) hp)
        rw [List.lookup]
        have : (p.1 == x.1) = false := by simpa using hne
        rw [this]
        exact ih hn.2 hp
  unfold lies
  rw [this]
/-- The slots of D are where its operations put what they yield. -/
def slotsOk (ops : Array Oper) (D : List (Nat × Tmp)) (F : List Nat) : Bool := (D.map Prod.fst == F) && decide (D.map Prod.snd).Nodup && D.all (fun p => dstOf ops p.1 == some p.2)
/-- F may go in whatever order, and those of st come behind all of F. -/
def flowOk (md : Region.Mode) (ops : Array Oper) (listed : Array Bool) (F st : List Nat) : Bool :=
  listed.size == ops.size && F.Nodup &&
  (List.range ops.size).all (fun i => !(listed.getD i false) || (depsOf md ops i).all (fun j => listed.getD j false)) &&
  F.all (fun i => !(listed.getD i true) && decide (i < ops.size) && !(st.contains i) && (depsOf md ops i).all (fun j => decide (j < i) && (listed.getD j false || F.contains j))) &&
  (List.range ops.size).all (fun i => listed.getD i false || F.contains i || st.contains i) &&
  st.all (fun s => !(listed.getD s true) && ((depsOf md ops s).any (fun j => st.contains j) || F.all (fun j => (ancs md ops ops.size [s]).contains j)))
/-- What is listed once all of F is. -/
def fullOf (ops : Array Oper) (st : List Nat) : Array Bool := ((List.range ops.size).map (fun i => !(st.contains i))).toArray

theorem mem_deps {md : Region.Mode} {ops : Array Oper} {i j : Nat} : j ∈ depsOf md ops i ↔ ∃ o, ops[i]? = some o ∧ ∃ e, e ∈ o.after ∧ Region.binds md e = true ∧ e.on = j := by
  unfold depsOf
  cases h : ops[i]? with
  | none => simp
  | some o => simp [and_assoc]
theorem anc_listed {md : Region.Mode} {ops : Array Oper} {listed : Array Bool} (hc : ∀ i j, listed.getD i false = true → j ∈ depsOf md ops i → listed.getD j false = true) :
    ∀ (n : Nat) (l : List Nat), (∀ i, i ∈ l → ∀ j, j ∈ depsOf md ops i → listed.getD j false = true) → ∀ j, j ∈ ancs md ops n l → listed.getD j false = true
  | 0, _, _, j, h => by simp [ancs] at h
  | n + 1, l, hl, j, h => by
    have h1 : ∀ k, k ∈ (l.flatMap (depsOf md ops)).eraseDups → listed.getD k false = true := fun k hk => by
      rw [List.mem_eraseDups, List.mem_flatMap] at hk
      obtain ⟨i, hi, hki⟩ := hk
      exact hl i hi k hki
    simp only [ancs, List.mem_append] at h
    rcases h with h | h
    · exact h1 j h
    · exact anc_listed hc n _ (fun i hi k hk => hc i k (h1 i hi) hk) j h
theorem getD_ft {l : Array Bool} {i : Nat} (h : i < l.size) : l.getD i true = l.getD i false := by simp [Array.getD, h]
/-- How many of F are not listed. -/
def left (listed : Array Bool) : List Nat → Nat
  | [] => 0
  | x :: F => (if listed.getD x false = true then 0 else 1) + left listed F
theorem left_set {listed : Array Bool} {i : Nat} (hi : i < listed.size) (hl : listed.getD i false = false) : ∀ {F : List Nat}, F.Nodup → left listed F = left (listed.setIfInBounds i true) F + (if i ∈ F then 1 else 0)
  | [], _ => by simp [left]
  | x :: F, h => by
    have h' := List.nodup_cons.1 h
    have ih := left_set hi hl h'.2
    have hi' : (listed.setIfInBounds i true).getD i false = true := by simp [Array.getD, hi]
    simp only [left]
    by_cases hx : x = i
    · subst hx
      rw [hi', hl, ih]
      simp [h'.1]; omega
    · have h1 : (listed.setIfInBounds i true).getD x false = listed.getD x false := getD_set_ne false (Ne.symm hx)
      rw [h1, ih]
      have : (i ∈ x :: F) = (i ∈ F) := by simp [Ne.symm hx]
      simp only [this]; omega
theorem left_none {listed : Array Bool} : ∀ {F : List Nat}, left listed F = 0 → ∀ j, j ∈ F → listed.getD j false = true
  | [], _, j, hj => by cases hj
  | x :: F, h, j, hj => by
    simp only [left] at h
    rcases List.mem_cons.1 hj with rfl | hj
    · cases hb : listed.getD j false
      · rw [hb] at h; simp at h
      · rfl
    · exact left_none (by omega) j hj
theorem left_some {listed : Array Bool} : ∀ {F : List Nat}, left listed F ≠ 0 → ∃ j, j ∈ F ∧ listed.getD j false = false
  | [], h => absurd rfl h
  | x :: F, h => by
    cases hb : listed.getD x false
    · exact ⟨x, by simp, hb⟩
    · simp only [left] at h
      rw [hb] at h
      obtain ⟨j, h1, h2⟩ := left_some (F := F) (by simpa using h)
      exact ⟨j, by simp [h1], h2⟩
theorem left_all {listed : Array Bool} : ∀ {F : List Nat}, (∀ j, j ∈ F → listed.getD j false = false) → left listed F = F.length
  | [], _ => rfl
  | x :: F, h => by
    simp only [left, h x (by simp), List.length_cons]
    rw [left_all (fun j hj => h j (by simp [hj]))]
    simp; omega
/-- One operation at whatever time, its own answers at hand. -/
def StepOk (P : Program) (md : Region.Mode) (ops : Array Oper) (Q : Exit → Act → World → Prop) (S : World → Prop) (G : Nat → Value → World → Prop) (a0 : Act) (w0 : World) (D : List (Nat × Tmp)) (F : List Nat) (i : Nat) : Prop :=
  ∃ o, ops[i]? = some o ∧ ∀ u w, S w → Below w0.heap.size w0 w → (∀ j, F.contains j = true → (depsOf md ops i).contains j = true → G j (u j) w) →
    ∀ K : Act → World → Prop, Shut (∀ v w', Below w.heap.size w w' → G i v w' → K ((fill a0 D u).put o.dst v) w') → if Region.wanted o (yielded ops (fill a0 D u).tmps) = true then Oper.wp P o (fill a0 D u) w K Q else K ((fill a0 D u).put o.dst undef) w

theorem wpOp_of {P : Program} {ops : Array Oper} {Q : Exit → Act → World → Prop} {i : Nat} {o : Oper} {K : Act → World → Prop} {a : Act} {w : World} (ho : ops[i]? = some o) (h : if Region.wanted o (yielded ops a.tmps) = true then Oper.wp P o a w K Q else K (a.put o.dst undef) w) : wpOp P ops Q i K a w := by
  unfold wpOp
  simp only [ho]
  split at h
  · rename_i hw; simp only [hw, if_true]; exact .inl h
  · rename_i hw; simp only [hw]; exact h

theorem wpAnyH_flow {P : Program} {md : Region.Mode} {ops : Array Oper} {Q : Exit → Act → World → Prop} {S : World → Prop} (G : Nat → Value → World → Prop) (D : List (Nat × Tmp)) (F st : List Nat) (listed0 : Array Bool) (a0 : Act) (w0 : World) (fuel : Nat)
    (hok : flowOk md ops listed0 F st = true) (hsl : slotsOk ops D F = true)
    (hS : ∀ w w', S w → Below w.heap.size w w' → S w')
    (hG : ∀ j v w w', G j v w → Below w.heap.size w w' → G j v w')
    (hstep : ∀ i, i ∈ F → StepOk P md ops Q S G a0 w0 D F i)
    (hend : ∀ u w, S w → Below w0.heap.size w0 w → (∀ j, j ∈ F → G j (u j) w) → wpAnyH P md ops Q S fuel (fullOf ops st) (fill a0 D u) w)
    (hS0 : S w0) : wpAnyH P md ops Q S (F.length + fuel) listed0 a0 w0 := by
  simp only [flowOk, Bool.and_eq_true, beq_iff_eq] at hok
  obtain ⟨⟨⟨⟨⟨k1, k0⟩, k2⟩, k3⟩, k4⟩, k5⟩ := hok
  have k0 : F.Nodup := of_decide_eq_true k0
  have k2' : ∀ i j, listed0.getD i false = true → j ∈ depsOf md ops i → listed0.getD j false = true := fun i j hi hj => by
    have hlt : i < ops.size := by
      rcases Nat.lt_or_ge i ops.size with h | h
      · exact h
      · rw [← k1] at h; simp [Array.getElem?_eq_none h] at hi
    have := List.all_eq_true.1 k2 i (List.mem_range.2 hlt)
    rw [hi] at this
    simpa using List.all_eq_true.1 (by simpa using this) j hj
  have k3' : ∀ i, i ∈ F → listed0.getD i true = false ∧ i < ops.size ∧ i ∉ st ∧ ∀ j, j ∈ depsOf md ops i → j < i ∧ (listed0.getD j false = true ∨ j ∈ F) := fun i hi => by
    have := List.all_eq_true.1 k3 i hi
    simp only [Bool.and_eq_true, Bool.not_eq_true', decide_eq_true_eq] at this
    obtain ⟨⟨⟨a, b⟩, c⟩, d⟩ := this
    refine ⟨a, b, fun h => ?_, fun j hj => ?_⟩
    · rw [List.contains_iff_mem.2 h] at c; cases c
    · have := List.all_eq_true.1 d j hj
      simp only [Bool.and_eq_true, decide_eq_true_eq, Bool.or_eq_true] at this
      exact ⟨this.1, this.2.imp id (fun h => List.contains_iff_mem.1 h)⟩
  have k4' : ∀ i, i < ops.size → listed0.getD i false = true ∨ i ∈ F ∨ i ∈ st := fun i hi => by
    have := List.all_eq_true.1 k4 i (List.mem_range.2 hi)
    simp only [Bool.or_eq_true] at this
    rcases this with (h | h) | h
    · exact .inl h
    · exact .inr (.inl (List.contains_iff_mem.1 h))
    · exact .inr (.inr (List.contains_iff_mem.1 h))
  have k5' : ∀ s, s ∈ st → listed0.getD s true = false ∧ ((∃ j, j ∈ depsOf md ops s ∧ j ∈ st) ∨ ∀ j, j ∈ F → j ∈ ancs md ops ops.size [s]) := fun s hs => by
    have := List.all_eq_true.1 k5 s hs
    simp only [Bool.and_eq_true, Bool.not_eq_true', Bool.or_eq_true] at this
    refine ⟨this.1, this.2.imp (fun h => ?_) (fun h j hj => List.contains_iff_mem.1 (List.all_eq_true.1 h j hj))⟩
    obtain ⟨j, h1, h2⟩ := List.any_eq_true.1 h
    exact ⟨j, h1, List.contains_iff_mem.1 h2⟩
  simp only [slotsOk, Bool.and_eq_true, beq_iff_eq, decide_eq_true_eq] at hsl
  obtain ⟨⟨hf, h2⟩, h3⟩ := hsl
  have h1 : (D.map Prod.fst).Nodup := hf ▸ k0
  have hput : ∀ i, i ∈ F → ∀ u v, (fill a0 D u).put (dstOf ops i) v = fill a0 D (updV u i v) := fun i hi u v => by
    rw [← hf] at hi
    obtain ⟨⟨i', d⟩, hp, rfl⟩ := List.mem_map.1 hi
    have h4 := List.all_eq_true.1 h3 _ hp
    rw [beq_iff_eq.1 h4]
    exact fill_put v h1 h2 hp
  have h0 : fill a0 D (lies a0 D) = a0 := fill_lies (lies_at h1)
  -- at any time
  have main : ∀ (n : Nat) (listed : Array Bool) (u : Nat → Value) (w : World), left listed F ≤ n → listed.size = ops.size → (∀ i, i ∉ F → listed.getD i false = listed0.getD i false) → (∀ i j, listed.getD i false = true → j ∈ depsOf md ops i → listed.getD j false = true) →
      S w → Below w0.heap.size w0 w → (∀ j, j ∈ F → listed.getD j false = true → G j (u j) w) → ∀ m, m = left listed F → wpAnyH P md ops Q S (m + fuel) listed (fill a0 D u) w := by
    intro n
    induction n with
    | zero =>
      intro listed u w hn hsz hout hcl hw hb hg m hm
      have hz : left listed F = 0 := by omega
      have hall := left_none hz
      have hl : listed = fullOf ops st := by
        apply Array.ext
        · rw [hsz]; simp [fullOf]
        · intro i h1 h2
          have hi : i < ops.size := by omega
          have e1 : listed[i] = listed.getD i false := by simp [Array.getD, h1]
          have e2 : (fullOf ops st)[i] = !(st.contains i) := by simp [fullOf]
          rw [e1, e2]
          by_cases hF : i ∈ F
          · rw [hall i hF]
            have := (k3' i hF).2.2.1
            simp [this]
          · rw [hout i hF]
            by_cases hs : i ∈ st
            · have := (k5' i hs).1
              rw [getD_ft (by omega)] at this
              rw [this]; simp [hs]
            · rcases k4' i hi with h | h | h
              · rw [h]; simp [hs]
              · exact absurd h hF
              · exact absurd h hs
      rw [hm, hz, Nat.zero_add, hl]
      exact hend u w hw hb (fun j hj => hg j hj (hall j hj))
    | succ n ih =>
      intro listed u w hn hsz hout hcl hw hb hg m hm
      by_cases hz : left listed F = 0
      · exact ih listed u w (by omega) hsz hout hcl hw hb hg m hm
      · obtain ⟨m', rfl⟩ : ∃ m', m = m' + 1 := ⟨m - 1, by omega⟩
        -- one of F is ready
        have hex := left_some hz
        have hmin : ∀ b i, i ≤ b → i ∈ F → listed.getD i false = false → ∃ i, i ∈ F ∧ listed.getD i false = false ∧ ∀ j, j ∈ F → j < i → listed.getD j false = true := by
          intro b
          induction b with
          | zero => intro i hi hF hl; exact ⟨i, hF, hl, fun j _ hj => by omega⟩
          | succ b ihb =>
            intro i hi hF hl
            by_cases h : ∃ j, j ∈ F ∧ j < i ∧ listed.getD j false = false
            · obtain ⟨j, h1, h2, h3⟩ := h
              exact ihb j (by omega) h1 h3
            · refine ⟨i, hF, hl, fun j h1 h2 => ?_⟩
              cases h3 : listed.getD j false
              · exact absurd ⟨j, h1, h2, h3⟩ h
              · rfl
        have hne : Region.ready md ops listed ≠ [] := by
          obtain ⟨i0, h1, h2⟩ := hex
          obtain ⟨i, hF, hl, hmn⟩ := hmin i0 i0 (Nat.le_refl _) h1 h2
          obtain ⟨_, hlt, _, hd⟩ := k3' i hF
          have : i ∈ Region.ready md ops listed := mem_ready.2 ⟨by rw [getD_ft (by omega)]; exact hl, ops[i], by simp [hlt], fun e he hb => by
            obtain ⟨h1, h2⟩ := hd e.on (mem_deps.2 ⟨ops[i], by simp [hlt], e, he, hb, rfl⟩)
            by_cases hFe : e.on ∈ F
            · exact hmn _ hFe h1
            · rw [hout _ hFe]; exact h2.resolve_right hFe⟩
          intro h; rw [h] at this; cases this
        rw [show m' + 1 + fuel = (m' + fuel) + 1 by omega]
        refine ⟨fun h => absurd h hne, fun i hi => ?_⟩
        obtain ⟨hun, o, ho, hdep⟩ := mem_ready.1 hi
        have hlt : i < ops.size := (Array.getElem?_eq_some_iff.1 ho).1
        have hlf : listed.getD i false = false := by rw [← getD_ft (by omega)]; exact hun
        have hdl : ∀ j, j ∈ depsOf md ops i → listed.getD j false = true := fun j hj => by
          obtain ⟨o', ho', e, he, hb', rfl⟩ := mem_deps.1 hj
          have : o' = o := Option.some.inj (ho'.symm.trans ho)
          subst this
          exact hdep e he hb'
        by_cases hF : i ∈ F
        case neg =>
          exfalso
          have h1 := hout i hF
          rw [hlf] at h1
          rcases k4' i hlt with h | h | h
          · rw [h] at h1; cases h1
          · exact hF h
          · rcases (k5' i h).2 with ⟨j, hj, hjs⟩ | hanc
            · have h2 := hdl j hj
              have h3 := k5' j hjs
              by_cases hjF : j ∈ F
              · exact (k3' j hjF).2.2.1 hjs
              · rw [hout j hjF] at h2
                have h4 := h3.1
                have hjl : j < listed0.size := by
                  rcases Nat.lt_or_ge j listed0.size with h | h
                  · exact h
                  · simp [Array.getElem?_eq_none h] at h2
                rw [getD_ft hjl, h2] at h4; cases h4
            · obtain ⟨j, hjF, hjl⟩ := hex
              have := anc_listed hcl ops.size [i] (fun k hk l hl => by simp at hk; subst hk; exact hdl l hl) j (hanc j hjF)
              rw [hjl] at this; cases this
        obtain ⟨o', ho', hst⟩ := hstep i hF
        obtain rfl : o' = o := Option.some.inj (ho'.symm.trans ho)
        refine wpOp_of ho ?_
        refine hst u w hw hb (fun j hj hd => hg j (List.contains_iff_mem.1 hj) (hdl j (List.contains_iff_mem.1 hd))) _ (fun v w' hb' hgi => ?_)
        have hdst : o'.dst = dstOf ops i := by simp [dstOf, ho]
        refine ⟨hS w w' hw hb', ?_⟩
        rw [hdst, hput i hF]
        have hlt' := left_set (by omega) hlf k0
        simp only [hF, if_true] at hlt'
        have hset : ∀ j, j ≠ i → (listed.setIfInBounds i true).getD j false = listed.getD j false := fun j hj => getD_set_ne false (Ne.symm hj)
        have hseti : (listed.setIfInBounds i true).getD i false = true := by simp [Array.getD, show i < listed.size by omega]
        refine ih (listed.setIfInBounds i true) (updV u i v) w' (by omega) (by simpa using hsz) (fun j hj => ?_) (fun j k hj hk => ?_) (hS w w' hw hb') (hb.trans (hb'.mono hb.size)) (fun j hj hl => ?_) m' (by omega)
        · rw [hset j (fun e => hj (e ▸ hF)), hout j hj]
        · by_cases hji : j = i
          · subst hji
            exact getD_set_true (hdl k hk)
          · rw [hset j hji] at hj
            exact getD_set_true (hcl j k hj hk)
        · by_cases hji : j = i
          · subst hji; rw [updV_at]; exact hgi
          · rw [updV_ne hji]
            rw [hset j hji] at hl
            exact hG j (u j) w w' (hg j hj hl) hb'
  have hleft : left listed0 F = F.length := left_all (fun i hi => by
    have h1 := (k3' i hi).1
    have h2 := (k3' i hi).2.1
    rw [getD_ft (by omega)] at h1
    exact h1)
  have := main (left listed0 F) listed0 (lies a0 D) w0 (Nat.le_refl _) k1 (fun _ _ => rfl) k2' hS0 (Below.refl _ _) (fun j hj hl => by
    have h1 := (k3' j hj).1
    have h2 := (k3' j hj).2.1
    rw [getD_ft (by omega), hl] at h1; cases h1) F.length hleft.symm
  rw [h0] at this
  exact this
end Go.Proofs.YtlemkhgicdnlnaaGreat
namespace Go.Proofs.YtlemkhgicdnlnaaGreat
open Go.RowKit

/-- A block, whole: it may be written. -/
def Bk (w : World) (B : Nat) (vs : List Value) (t : TypeId) : Prop := w.heap[B]? = some (.cells vs.toArray t (0, 0))
theorem bk_new (w : World) (vs : List Value) (t : TypeId) : Bk (w.alloc (.cells vs.toArray t)) w.heap.size vs t := heap_alloc_new w _
theorem Bk.lt {w B vs t} (h : Bk w B vs t) : B < w.heap.size := (Array.getElem?_eq_some_iff.1 h).1
theorem Bk.below {w w' B vs t} (h : Bk w B vs t) (hb : Below w.heap.size w w') : Bk w' B vs t := (hb.block B h.lt).trans h
theorem Bk.cell {w B vs t} (h : Bk w B vs t) {j : Nat} {v : Value} (hv : vs[j]? = some v) : w.cell? ⟨B, j, none⟩ = some v := by
  unfold Bk at h
  simp only [World.cell?, h]
  simpa using hv
theorem Bk.frozen {w B vs t} (h : Bk w B vs t) (o : Nat) : w.frozen? ⟨B, o, none⟩ = false := by
  unfold Bk at h
  simp [World.frozen?, h]
/-- One cell of a block that is written. -/
theorem Bk.set {w B vs t} (h : Bk w B vs t) (j : Nat) (v : Value) : Bk (w.setCell ⟨B, j, none⟩ v) B (vs.set j v) t := by
  unfold Bk at *
  simp [World.setCell, Array.getElem?_modify, h]
theorem Bk.of {w w' B vs t} (h : Bk w B vs t) (hb : w'.heap[B]? = w.heap[B]?) : Bk w' B vs t := hb.trans h
/-- A block's cells written one after another. -/
def stl (B : Nat) : Nat → List Value → World → World
  | _, [], w => w
  | o, v :: vs, w => stl B (o + 1) vs (w.setCell ⟨B, o, none⟩ v)
theorem stl_at (B : Nat) : ∀ (vs : List Value) (o : Nat) (w : World), (stl B o vs w).os = w.os ∧ (stl B o vs w).tape = w.tape ∧ (stl B o vs w).output = w.output ∧ (stl B o vs w).heap.size = w.heap.size ∧ ∀ k, k ≠ B → (stl B o vs w).heap[k]? = w.heap[k]?
  | [], o, w => ⟨rfl, rfl, rfl, rfl, fun _ _ => rfl⟩
  | v :: vs, o, w => by
    obtain ⟨h1, h2, h3, h4, h5⟩ := stl_at B vs (o + 1) (w.setCell ⟨B, o, none⟩ v)
    refine ⟨h1, h2, h3, ?_, fun k hk => ?_⟩
    · show (stl B (o + 1) vs (w.setCell ⟨B, o, none⟩ v)).heap.size = _
      rw [h4]; simp [World.setCell]
    · show (stl B (o + 1) vs (w.setCell ⟨B, o, none⟩ v)).heap[k]? = _
      rw [h5 k hk]; exact Below.heap_setCell _ _ _ _ hk
theorem st_new {w w6 : World} {B : Nat} {us : List Value} {t : TypeId} (vs : List Value) (h : Bk w6 B us t) (hu : NoU us.toArray) (hb : Below w.heap.size w w6) (hB : w.heap.size ≤ B) :
    Below w.heap.size w (stl B 0 vs w6) ∧ Kp w6 (stl B 0 vs w6) ∧ ∀ k, k ≠ B → (stl B 0 vs w6).heap[k]? = w6.heap[k]? := by
  obtain ⟨h1, h2, h3, h4, h5⟩ := stl_at B vs 0 w6
  refine ⟨hb.trans ⟨h1, h2, h3, by omega, fun k hk => h5 k (by omega)⟩, ⟨h1, h2, h3, by omega, fun k _ => ?_⟩, h5⟩
  by_cases hk : k = B
  · subst hk; exact .inr ⟨_, t, (0, 0), h, hu⟩
  · exact .inl (h5 k hk)
end Go.Proofs.YtlemkhgicdnlnaaGreat
namespace Go.Proofs.YtlemkhgicdnlnaaGreat
open Go.RowKit

/-- A number in memory by its value. -/
def NmV (L : Nat) (w : World) (t : Nm) (q : Rat) : Prop := Rn L w t.s t.x t.n t.c t.f t.y t.m t.d t.g q
theorem NmV.below {L w w' t q} (h : NmV L w t q) (hb : Below w.heap.size w w') : NmV L w' t q := Rn.below h hb
/-- A column, a row by their values. -/
structure CV where
  nm : ByteArray
  cost : Rat
  li : Int
  lq : Rat
  hi : Int
  hq : Rat
structure RV where
  nm : ByteArray
  li : Int
  lq : Rat
  hi : Int
  hq : Rat
  ts : List (Int × Rat)
structure ColV (L : Nat) (w : World) (c : Lc) (v : CV) : Prop where
  nm : c.nm = v.nm
  cost : NmV L w c.cost v.cost
  li : c.lo.i = v.li
  lq : NmV L w c.lo.v v.lq
  hi : c.hi.i = v.hi
  hq : NmV L w c.hi.v v.hq
structure RowV (L : Nat) (w : World) (r : Lr) (v : RV) : Prop where
  nm : r.nm = v.nm
  li : r.lo.i = v.li
  lq : NmV L w r.lo.v v.lq
  hi : r.hi.i = v.hi
  hq : NmV L w r.hi.v v.hq
  tk : r.tk = v.ts.length
  tl : ∀ p z q, v.ts[p]? = some (z, q) → r.col p = z ∧ NmV L w (r.T p) q ∧ ∃ b o, r.ta = some ⟨b, o, none⟩ ∧ C4 w b (o + p * 4) (.int .i64 (r.col p)) (.bool (r.T p).s) (.slice (r.T p).x (r.T p).n (r.T p).c) (.slice (r.T p).y (r.T p).m (r.T p).d)
theorem ColV.below {L w w' c v} (h : ColV L w c v) (hb : Below w.heap.size w w') : ColV L w' c v := ⟨h.nm, h.cost.below hb, h.li, h.lq.below hb, h.hi, h.hq.below hb⟩
theorem RowV.below {L w w' c v} (h : RowV L w c v) (hb : Below w.heap.size w w') : RowV L w' c v := ⟨h.nm, h.li, h.lq.below hb, h.hi, h.hq.below hb, h.tk, fun p z q e => by
  obtain ⟨h1, h2, b, o, h3, h4⟩ := h.tl p z q e
  exact ⟨h1, h2.below hb, b, o, h3, h4.below hb⟩⟩
/-- A model by its values. -/
structure MoV (L : Nat) (w : World) (M : Mo) (q : Rat) (cs : List CV) (rs : List RV) : Prop where
  off : NmV L w M.off q
  ck : M.ck = cs.length
  rk : M.rk = rs.length
  cls : ∀ j v, cs[j]? = some v → (∃ b o, M.ca = some ⟨b, o, none⟩ ∧ Cs w b (o + j * 12) (M.C j).vs) ∧ ColV L w (M.C j) v
  rls : ∀ j v, rs[j]? = some v → (∃ b o, M.ra = some ⟨b, o, none⟩ ∧ Cs w b (o + j * 10) (M.R j).vs) ∧ RowV L w (M.R j) v
theorem MoV.below {L w w' M q cs rs} (h : MoV L w M q cs rs) (hb : Below w.heap.size w w') : MoV L w' M q cs rs :=
  ⟨h.off.below hb, h.ck, h.rk, fun j v e => by obtain ⟨⟨b, o, h1, h2⟩, h3⟩ := h.cls j v e; exact ⟨⟨b, o, h1, h2.below hb⟩, h3.below hb⟩, fun j v e => by obtain ⟨⟨b, o, h1, h2⟩, h3⟩ := h.rls j v e; exact ⟨⟨b, o, h1, h2.below hb⟩, h3.below hb⟩⟩
theorem NmV.nms {L w t q} (h : NmV L w t q) (hL : L ≤ 65536) : NmS w t ∧ nfB t = true := by
  obtain ⟨h1, h2⟩ := Rn.nm h hL
  exact ⟨h1, h2⟩
theorem RowV.tls {L w r v} (h : RowV L w r v) (hL : L ≤ 65536) : Tl w r.ta r.tk r.col r.T := fun j hj => by
  rw [h.tk] at hj
  obtain ⟨⟨z, q⟩, hz⟩ : ∃ x, v.ts[j]? = some x := ⟨_, List.getElem?_eq_getElem hj⟩
  obtain ⟨_, h2, b, o, h3, h4⟩ := h.tl j z q hz
  exact ⟨b, o, h3, h4, (h2.nms hL).1⟩
/-- It can be read. -/
theorem MoV.mor {L w M q cs rs} (h : MoV L w M q cs rs) (hL : L ≤ 65536) (hc : cs.length ≤ 64) (hr : rs.length ≤ 64) (hn : ∀ v, v ∈ cs → v.nm.size ≤ 1000) (hm : ∀ v, v ∈ rs → v.nm.size ≤ 1000 ∧ v.ts.length ≤ 1000) : MoR w M := by
  refine ⟨(h.off.nms hL).1, fun j hj => ?_, fun j hj => ?_, by rw [h.ck]; omega, by rw [h.rk]; omega⟩
  · rw [h.ck] at hj
    obtain ⟨v, hv⟩ : ∃ x, cs[j]? = some x := ⟨_, List.getElem?_eq_getElem hj⟩
    obtain ⟨⟨b, o, h1, h2⟩, h3⟩ := h.cls j v hv
    have := hn v (List.mem_of_getElem? hv)
    exact ⟨b, o, h1, h2, (h3.cost.nms hL).1, (h3.lq.nms hL).1, (h3.hq.nms hL).1, by rw [h3.nm]; omega⟩
  · rw [h.rk] at hj
    obtain ⟨v, hv⟩ : ∃ x, rs[j]? = some x := ⟨_, List.getElem?_eq_getElem hj⟩
    obtain ⟨⟨b, o, h1, h2⟩, h3⟩ := h.rls j v hv
    have := hm v (List.mem_of_getElem? hv)
    exact ⟨b, o, h1, h2, (h3.lq.nms hL).1, (h3.hq.nms hL).1, h3.tls hL, by rw [h3.tk]; omega, by rw [h3.nm]; omega⟩

/-- A model stays where a box of bools and lists is written. -/
theorem MoV.kp {L w w' M q cs rs} (h : MoV L w M q cs rs) (hk : Kp w w') {b0 : Nat} (hne : ∀ k, k ≠ b0 → w'.heap[k]? = w.heap[k]?) (hno : ∀ o v, w.cell? ⟨b0, o, none⟩ = some v → (∀ s, v ≠ .string s) ∧ ∀ k z, v ≠ .int k z) : MoV L w' M q cs rs := by
  have hc : ∀ b o vs, (∃ s, vs[0]? = some (Value.string s)) → Cs w b o vs → Cs w' b o vs := fun b o vs ⟨s, hs⟩ h j v e => by
    have hb : b ≠ b0 := fun e => (hno (o + 0) (.string s) (e ▸ h 0 _ hs)).1 s rfl
    exact (World.cell?_of_block (a := ⟨b, o + j, none⟩) (hne b hb)).trans (h j v e)
  have h4 : ∀ b o z a1 a2 a3, C4 w b o (.int .i64 z) a1 a2 a3 → C4 w' b o (.int .i64 z) a1 a2 a3 := fun b o z a1 a2 a3 h => by
    have hb : b ≠ b0 := fun e => (hno o _ (e ▸ h.x0)).2 _ z rfl
    exact ⟨(World.cell?_of_block (a := ⟨b, o, none⟩) (hne b hb)).trans h.x0, (World.cell?_of_block (a := ⟨b, o + 1, none⟩) (hne b hb)).trans h.x1, (World.cell?_of_block (a := ⟨b, o + 2, none⟩) (hne b hb)).trans h.x2, (World.cell?_of_block (a := ⟨b, o + 3, none⟩) (hne b hb)).trans h.x3⟩
  refine ⟨Rn.kp h.off hk, h.ck, h.rk, fun j v e => ?_, fun j v e => ?_⟩
  · obtain ⟨⟨b, o, h1, h2⟩, h3⟩ := h.cls j v e
    exact ⟨⟨b, o, h1, hc _ _ _ ⟨_, rfl⟩ h2⟩, h3.nm, Rn.kp h3.cost hk, h3.li, Rn.kp h3.lq hk, h3.hi, Rn.kp h3.hq hk⟩
  · obtain ⟨⟨b, o, h1, h2⟩, h3⟩ := h.rls j v e
    refine ⟨⟨b, o, h1, hc _ _ _ ⟨_, rfl⟩ h2⟩, h3.nm, h3.li, Rn.kp h3.lq hk, h3.hi, Rn.kp h3.hq hk, h3.tk, fun p z q' e' => ?_⟩
    obtain ⟨k1, k2, b', o', k3, k4⟩ := h3.tl p z q' e'
    exact ⟨k1, Rn.kp k2 hk, b', o', k3, h4 _ _ _ _ _ _ k4⟩
/-- A box of five cells that is written over. -/
theorem kp_st5 {w w' : World} {B : Nat} {a0 a1 a2 a3 a4 : Value} {t : TypeId} (h : Bk w B [a0, a1, a2, a3, a4] t) (hu : NoU #[a0, a1, a2, a3, a4]) {v0 v1 v2 v3 v4 : Value}
    (e : w' = ((((w.setCell ⟨B, 0, none⟩ v0).setCell ⟨B, 1, none⟩ v1).setCell ⟨B, 2, none⟩ v2).setCell ⟨B, 3, none⟩ v3).setCell ⟨B, 4, none⟩ v4) : Kp w w' ∧ ∀ k, k ≠ B → w'.heap[k]? = w.heap[k]? := by
  obtain ⟨w1, h1⟩ : ∃ x, x = w.setCell ⟨B, 0, none⟩ v0 := ⟨_, rfl⟩
  obtain ⟨w2, h2⟩ : ∃ x, x = w1.setCell ⟨B, 1, none⟩ v1 := ⟨_, rfl⟩
  obtain ⟨w3, h3⟩ : ∃ x, x = w2.setCell ⟨B, 2, none⟩ v2 := ⟨_, rfl⟩
  obtain ⟨w4, h4⟩ : ∃ x, x = w3.setCell ⟨B, 3, none⟩ v3 := ⟨_, rfl⟩
  rw [← h1, ← h2, ← h3, ← h4] at e
  have g : ∀ (a b : World) o v, b = a.setCell ⟨B, o, none⟩ v → b.os = a.os ∧ b.tape = a.tape ∧ b.output = a.output ∧ b.heap.size = a.heap.size ∧ ∀ k, k ≠ B → b.heap[k]? = a.heap[k]? := fun a b o v e => by
    subst e; exact ⟨rfl, rfl, rfl, by simp [World.setCell], fun k hk => Below.heap_setCell _ _ _ _ hk⟩
  obtain ⟨a1, b1, c1, d1, e1⟩ := g _ _ _ _ h1
  obtain ⟨a2, b2, c2, d2, e2⟩ := g _ _ _ _ h2
  obtain ⟨a3, b3, c3, d3, e3⟩ := g _ _ _ _ h3
  obtain ⟨a4, b4, c4, d4, e4⟩ := g _ _ _ _ h4
  obtain ⟨a5, b5, c5, d5, e5⟩ := g _ _ _ _ e
  have hne : ∀ k, k ≠ B → w'.heap[k]? = w.heap[k]? := fun k hk => by rw [e5 k hk, e4 k hk, e3 k hk, e2 k hk, e1 k hk]
  refine ⟨⟨by rw [a5, a4, a3, a2, a1], by rw [b5, b4, b3, b2, b1], by rw [c5, c4, c3, c2, c1], by omega, fun k _ => ?_⟩, hne⟩
  by_cases hk : k = B
  · subst hk; exact .inr ⟨_, t, (0, 0), h, hu⟩
  · exact .inl (hne k hk)
theorem below_st5 {w0 w : World} {B : Nat} {u0 u1 u2 u3 u4 : Value} (hw : Below w0.heap.size w0 w) (hB : w0.heap.size ≤ B) :
    Below w0.heap.size w0 (((((w.setCell ⟨B, 0, none⟩ u0).setCell ⟨B, 1, none⟩ u1).setCell ⟨B, 2, none⟩ u2).setCell ⟨B, 3, none⟩ u3).setCell ⟨B, 4, none⟩ u4) :=
  below_turned hw hw.size ((((((Turned.refl w0.heap.size (B + 1) w).set (x := ⟨B, 0, none⟩) hB (by simp) _).set (x := ⟨B, 1, none⟩) hB (by simp) _).set (x := ⟨B, 2, none⟩) hB (by simp) _).set (x := ⟨B, 3, none⟩) hB (by simp) _).set (x := ⟨B, 4, none⟩) hB (by simp) _) (Nat.le_refl _)
theorem noc5 {w : World} {B : Nat} {s : Bool} {x1 x2 x3 x4 : Option Addr} {n1 n2 n3 n4 c1 c2 c3 c4 : Nat} {t : TypeId} (h : Bk w B [.bool s, .slice x1 n1 c1, .slice x2 n2 c2, .slice x3 n3 c3, .slice x4 n4 c4] t) : ∀ o v, w.cell? ⟨B, o, none⟩ = some v → (∀ s, v ≠ .string s) ∧ ∀ k z, v ≠ .int k z := fun o v e => by
  unfold Bk at h
  simp only [World.cell?, h] at e
  match o, e with
  | 0, e => simp at e; subst e; exact ⟨(fun _ h => nomatch h), (fun _ _ h => nomatch h)⟩
  | 1, e => simp at e; subst e; exact ⟨(fun _ h => nomatch h), (fun _ _ h => nomatch h)⟩
  | 2, e => simp at e; subst e; exact ⟨(fun _ h => nomatch h), (fun _ _ h => nomatch h)⟩
  | 3, e => simp at e; subst e; exact ⟨(fun _ h => nomatch h), (fun _ _ h => nomatch h)⟩
  | 4, e => simp at e; subst e; exact ⟨(fun _ h => nomatch h), (fun _ _ h => nomatch h)⟩
  | o + 5, e => simp at e
theorem nou5 (s : Bool) (x1 x2 x3 x4 : Option Addr) (n1 n2 n3 n4 c1 c2 c3 c4 : Nat) : NoU #[Value.bool s, .slice x1 n1 c1, .slice x2 n2 c2, .slice x3 n3 c3, .slice x4 n4 c4] := nou_list (l := [Value.bool s, .slice x1 n1 c1, .slice x2 n2 c2, .slice x3 n3 c3, .slice x4 n4 c4]) (fun u hu q => by simp at hu; rcases hu with rfl | rfl | rfl | rfl | rfl <;> simp)
/-- Cells of a block that was just made. -/
theorem cs_new (w : World) (t : TypeId) (l l' : List Value) (o : Nat) (h : ∀ j v, l'[j]? = some v → l[o + j]? = some v) : Cs (w.alloc (.cells l.toArray t)) w.heap.size o l' := fun j v e => by
  have := h j v e
  simp only [World.cell?, heap_alloc_new]
  simpa using this

end Go.Proofs.YtlemkhgicdnlnaaGreat
namespace Go.Proofs.YtlemkhgicdnlnaaGreat
open Go.RowKit

def bdB (li : Int) (lq : Rat) (hi : Int) (hq : Rat) : Bool := (decide (li = 0) || (decide (li = -1) && decide (lq = 0))) && (decide (hi = 0) || (decide (hi = 1) && decide (hq = 0)))
def tsB (n : Nat) : Int → List (Int × Rat) → Bool
  | _, [] => true
  | last, (z, q) :: r => decide (last < z) && (decide (z < (n : Int)) && (decide (q ≠ 0) && tsB n z r))
def nmC (cs : List CV) (j : Nat) : ByteArray := (cs[j]?.map CV.nm).getD ByteArray.empty
def nmR (rs : List RV) (j : Nat) : ByteArray := (rs[j]?.map RV.nm).getD ByteArray.empty
/-- Values of a model that is well formed. -/
def mvOk (cs : List CV) (rs : List RV) : Bool := decide (cs.length ≤ 64) && (decide (rs.length ≤ 64) && (cs.all (fun v => bdB v.li v.lq v.hi v.hq) && (rs.all (fun v => bdB v.li v.lq v.hi v.hq && (tsB cs.length (-1) v.ts && decide (v.ts.length ≤ 1000))) && (nms (nmC cs) cs.length 0 && (nms (nmR rs) rs.length 0 && (!(twr (nmC cs) cs.length 0) && !(twr (nmR rs) rs.length 0)))))))
theorem nms_congr {S S' : Nat → ByteArray} : ∀ {r i : Nat}, (∀ j, i ≤ j → j < i + r → S j = S' j) → nms S r i = nms S' r i
  | 0, _, _ => rfl
  | r + 1, i, h => by simp only [nms]; rw [h i (by omega) (by omega), nms_congr (fun j a b => h j (by omega) (by omega))]
theorem saw_congr {S S' : Nat → ByteArray} {i : Nat} (h : ∀ j, j ≤ i → S j = S' j) : sawB S i = sawB S' i := by
  rw [Bool.eq_iff_iff, sawB_iff, sawB_iff]
  exact ⟨fun ⟨j, h1, h2⟩ => ⟨j, h1, by rw [← h j (by omega), ← h i (by omega)]; exact h2⟩, fun ⟨j, h1, h2⟩ => ⟨j, h1, by rw [h j (by omega), h i (by omega)]; exact h2⟩⟩
theorem twr_congr {S S' : Nat → ByteArray} : ∀ {r i : Nat}, (∀ j, j < i + r → S j = S' j) → twr S r i = twr S' r i
  | 0, _, _ => rfl
  | r + 1, i, h => by simp only [twr]; rw [saw_congr (fun j hj => h j (by omega)), twr_congr (fun j b => h j (by omega))]
theorem idx_congr {S S' : Nat → ByteArray} {z : ByteArray} : ∀ {r i : Nat}, (∀ j, i ≤ j → j < i + r → S j = S' j) → idx S z r i = idx S' z r i
  | 0, _, _ => rfl
  | r + 1, i, h => by simp only [idx]; rw [h i (by omega) (by omega), idx_congr (fun j a b => h j (by omega) (by omega))]
theorem nms_size {S : Nat → ByteArray} : ∀ {r i : Nat}, nms S r i = true → ∀ j, i ≤ j → j < i + r → (S j).size ≤ 16
  | 0, _, _, j, h1, h2 => by omega
  | r + 1, i, h, j, h1, h2 => by
    simp only [nms, Bool.and_eq_true] at h
    by_cases e : j = i
    · subst e
      have := h.1
      simp only [isNm, Bool.and_eq_true, decide_eq_true_eq] at this
      omega
    · exact nms_size h.2 j (by omega) (by omega)
theorem crl_congr {B B' : Nat → Bool} : ∀ {i : Nat}, (∀ j, j < i → B j = B' j) → crl B i = crl B' i
  | 0, _ => rfl
  | i + 1, h => by unfold crl; rw [crl_congr (fun j hj => h j (by omega)), h i (by omega)]
theorem clsB_of {C : Nat → Lc} : ∀ {r i : Nat}, (∀ j, i ≤ j → j < i + r → nfB (C j).cost = true ∧ abB (C j).lo (C j).hi = true) → clsB C r i = true
  | 0, _, _ => rfl
  | r + 1, i, h => by simp only [clsB]; rw [(h i (by omega) (by omega)).1, (h i (by omega) (by omega)).2, clsB_of (fun j a b => h j (by omega) (by omega))]; rfl
theorem rlsB_of {R : Nat → Lr} : ∀ {r i : Nat}, (∀ j, i ≤ j → j < i + r → abB (R j).lo (R j).hi = true ∧ tfB (R j).tk (R j).col (R j).T = true) → rlsB R r i = true
  | 0, _, _ => rfl
  | r + 1, i, h => by simp only [rlsB]; rw [(h i (by omega) (by omega)).1, (h i (by omega) (by omega)).2, rlsB_of (fun j a b => h j (by omega) (by omega))]; rfl
theorem alB_of {k : Nat} {R : Nat → Lr} : ∀ {r i : Nat}, (∀ j, i ≤ j → j < i + r → lastB k (R j) = true) → alB k R r i = true
  | 0, _, _ => rfl
  | r + 1, i, h => by simp only [alB]; rw [h i (by omega) (by omega), alB_of (fun j a b => h j (by omega) (by omega))]; rfl
theorem NmV.ex {L w} {e : Ex} {i : Int} {q : Rat} (h : NmV L w e.v q) (hi : e.i = i) (hb : i = 0 ∨ (i = -1 ∨ i = 1) ∧ q = 0) : exF e = true :=
  En.ef (L := L) (w := w) (q := q) ⟨h, by rw [hi]; exact hb⟩
theorem ab_of {L w} {a b : Ex} {li : Int} {lq : Rat} {hi : Int} {hq : Rat} (h1 : NmV L w a.v lq) (e1 : a.i = li) (h2 : NmV L w b.v hq) (e2 : b.i = hi) (h : bdB li lq hi hq = true) : abB a b = true := by
  simp only [bdB, Bool.and_eq_true, Bool.or_eq_true, decide_eq_true_eq] at h
  have f1 := h1.ex e1 (by rcases h.1 with h | h; exact .inl h; exact .inr ⟨.inl h.1, h.2⟩)
  have f2 := h2.ex e2 (by rcases h.2 with h | h; exact .inl h; exact .inr ⟨.inr h.1, h.2⟩)
  simp only [abB, f1, f2, Bool.true_and, Bool.and_eq_true, decide_eq_true_eq]
  rw [e1, e2]
  omega
theorem tsB_at {n : Nat} : ∀ {l : List (Int × Rat)} {last : Int}, tsB n last l = true → (∀ (p : Nat) z q, l[p]? = some (z, q) → last < z ∧ z < (n : Int) ∧ q ≠ 0) ∧ ∀ (p : Nat) z q z' q', l[p]? = some (z, q) → l[p + 1]? = some (z', q') → z < z'
  | [], _, _ => ⟨fun p z q h => by simp at h, fun p z q z' q' h => by simp at h⟩
  | (a, b) :: r, last, h => by
    simp only [tsB, Bool.and_eq_true, decide_eq_true_eq] at h
    obtain ⟨h1, h2, h3, h4⟩ := h
    obtain ⟨k1, k2⟩ := tsB_at h4
    refine ⟨fun p z q e => ?_, fun p z q z' q' e e' => ?_⟩
    · cases p with
      | zero => simp at e; obtain ⟨rfl, rfl⟩ := e; exact ⟨h1, h2, h3⟩
      | succ p => have := k1 p z q (by simpa using e); exact ⟨by omega, this.2⟩
    · cases p with
      | zero =>
        simp at e; obtain ⟨rfl, rfl⟩ := e
        exact (k1 0 z' q' (by simpa using e')).1
      | succ p => exact k2 p z q z' q' (by simpa using e) (by simpa using e')
theorem RowV.tf {L w r v n} (h : RowV L w r v) (hL : L ≤ 65536) (ht : tsB n (-1) v.ts = true) : tfB r.tk r.col r.T = true ∧ lastB n r = true := by
  obtain ⟨k1, k2⟩ := tsB_at ht
  have hg : ∀ p, p < r.tk → ∃ z q, v.ts[p]? = some (z, q) := fun p hp => by
    rw [h.tk] at hp
    obtain ⟨⟨z, q⟩, e⟩ : ∃ x, v.ts[p]? = some x := ⟨_, List.getElem?_eq_getElem hp⟩
    exact ⟨z, q, e⟩
  refine ⟨tfr_of (fun j _ hj => ?_) (fun j _ hj => ?_) (fun h0 => ?_), ?_⟩
  · obtain ⟨z, q, e⟩ := hg j (by omega)
    obtain ⟨_, h2, _⟩ := h.tl j z q e
    refine ⟨(h2.nms hL).2, ?_⟩
    have := (k1 j z q e).2.2
    have hz := Rn.q_zero h2
    rcases Nat.eq_zero_or_pos (r.T j).n with h0 | h0
    · exact absurd (hz.2 h0) this
    · exact h0
  · obtain ⟨z, q, e⟩ := hg j (by omega)
    obtain ⟨z', q', e'⟩ := hg (j + 1) (by omega)
    rw [(h.tl j z q e).1, (h.tl (j + 1) z' q' e').1]
    exact k2 j z q z' q' e e'
  · obtain ⟨z, q, e⟩ := hg 0 h0
    rw [(h.tl 0 z q e).1]; exact (k1 0 z q e).1
  · simp only [lastB, Bool.or_eq_true, decide_eq_true_eq]
    by_cases h0 : r.tk = 0
    · exact .inl h0
    · obtain ⟨z, q, e⟩ := hg (r.tk - 1) (by omega)
      rw [(h.tl _ z q e).1]; exact .inr (k1 _ z q e).2.1
theorem MoV.nmc {L w M q cs rs} (h : MoV L w M q cs rs) : ∀ j, j < M.ck → (M.C j).nm = nmC cs j := fun j hj => by
  rw [h.ck] at hj
  obtain ⟨v, hv⟩ : ∃ x, cs[j]? = some x := ⟨_, List.getElem?_eq_getElem hj⟩
  rw [nmC, hv, (h.cls j v hv).2.nm]; rfl
theorem MoV.nmr {L w M q cs rs} (h : MoV L w M q cs rs) : ∀ j, j < M.rk → (M.R j).nm = nmR rs j := fun j hj => by
  rw [h.rk] at hj
  obtain ⟨v, hv⟩ : ∃ x, rs[j]? = some x := ⟨_, List.getElem?_eq_getElem hj⟩
  rw [nmR, hv, (h.rls j v hv).2.nm]; rfl
/-- Well formed by its values: well formed. -/
theorem MoV.chk {L w M q cs rs} (h : MoV L w M q cs rs) (hL : L ≤ 65536) (ho : mvOk cs rs = true) : chkE M = 0 ∧ MoR w M := by
  simp only [mvOk, Bool.and_eq_true, decide_eq_true_eq, List.all_eq_true, Bool.not_eq_true'] at ho
  obtain ⟨l1, l2, o1, o2, n1, n2, t1, t2⟩ := ho
  have hcv : ∀ j, j < M.ck → ∃ v, cs[j]? = some v := fun j hj => by rw [h.ck] at hj; exact ⟨_, List.getElem?_eq_getElem hj⟩
  have hrv : ∀ j, j < M.rk → ∃ v, rs[j]? = some v := fun j hj => by rw [h.rk] at hj; exact ⟨_, List.getElem?_eq_getElem hj⟩
  have hF : moF M = true := by
    simp only [moF, Bool.and_eq_true]
    refine ⟨(h.off.nms hL).2, clsB_of (fun j _ hj => ?_), rlsB_of (fun j _ hj => ?_)⟩
    · obtain ⟨v, hv⟩ := hcv j (by omega)
      obtain ⟨_, k⟩ := h.cls j v hv
      exact ⟨(k.cost.nms hL).2, ab_of k.lq k.li k.hq k.hi (o1 v (List.mem_of_getElem? hv))⟩
    · obtain ⟨v, hv⟩ := hrv j (by omega)
      obtain ⟨_, k⟩ := h.rls j v hv
      have o := o2 v (List.mem_of_getElem? hv)
      exact ⟨ab_of k.lq k.li k.hq k.hi o.1, (k.tf hL o.2.1).1⟩
  have hA : alB M.ck M.R M.rk 0 = true := alB_of (fun j _ hj => by
    obtain ⟨v, hv⟩ := hrv j (by omega)
    obtain ⟨_, k⟩ := h.rls j v hv
    rw [h.ck]
    exact (k.tf hL (o2 v (List.mem_of_getElem? hv)).2.1).2)
  have e1 : nms (fun j => (M.C j).nm) M.ck 0 = true := by rw [nms_congr (S' := nmC cs) (fun j _ hj => h.nmc j (by omega)), h.ck]; exact n1
  have e2 : nms (fun j => (M.R j).nm) M.rk 0 = true := by rw [nms_congr (S' := nmR rs) (fun j _ hj => h.nmr j (by omega)), h.rk]; exact n2
  have e3 : twr (fun j => (M.C j).nm) M.ck 0 = false := by rw [twr_congr (S' := nmC cs) (fun j hj => h.nmc j (by omega)), h.ck]; exact t1
  have e4 : twr (fun j => (M.R j).nm) M.rk 0 = false := by rw [twr_congr (S' := nmR rs) (fun j hj => h.nmr j (by omega)), h.rk]; exact t2
  have e0 : (decide (64 < M.ck) || decide (64 < M.rk)) = false := by rw [h.ck, h.rk]; simp; omega
  refine ⟨by unfold chkE; rw [e0, hF, e1, e2, e3, e4, hA]; rfl, h.mor hL l1 l2 (fun v hv => ?_) (fun v hv => ?_)⟩
  · obtain ⟨j, hj⟩ := List.getElem?_of_mem hv
    have := nms_size n1 j (by omega) (by have := (List.getElem?_eq_some_iff.1 hj).1; omega)
    rw [nmC, hj] at this
    exact Nat.le_trans this (by decide)
  · obtain ⟨j, hj⟩ := List.getElem?_of_mem hv
    have := nms_size n2 j (by omega) (by have := (List.getElem?_eq_some_iff.1 hj).1; omega)
    rw [nmR, hj] at this
    exact ⟨Nat.le_trans this (by decide), (o2 v hv).2.2⟩
/-- Which are crossed, by values. -/
def cvB (li : Int) (lq : Rat) (hi : Int) (hq : Rat) : Bool := decide (hi < li) || (decide (li = hi) && decide (hq < lq))
theorem abv_of {L w} {a b : Ex} {li : Int} {lq : Rat} {hi : Int} {hq : Rat} (h1 : NmV L w a.v lq) (e1 : a.i = li) (h2 : NmV L w b.v hq) (e2 : b.i = hi) : abvB a b = cvB li lq hi hq := by
  unfold abvB cvB
  rw [Rn.nq h1, Rn.nq h2, e1, e2]
def cvC (cs : List CV) (j : Nat) : Bool := (cs[j]?.map (fun v => cvB v.li v.lq v.hi v.hq)).getD false
def cvR (rs : List RV) (j : Nat) : Bool := (rs[j]?.map (fun v => cvB v.li v.lq v.hi v.hq)).getD false
theorem MoV.crl {L w M q cs rs} (h : MoV L w M q cs rs) : crl (ccB M.C) M.ck = crl (cvC cs) cs.length ∧ crl (rcB M.R) M.rk = crl (cvR rs) rs.length := by
  refine ⟨?_, ?_⟩
  · rw [crl_congr (B' := cvC cs) (fun j hj => ?_), h.ck]
    rw [h.ck] at hj
    obtain ⟨v, hv⟩ : ∃ x, cs[j]? = some x := ⟨_, List.getElem?_eq_getElem hj⟩
    obtain ⟨_, k⟩ := h.cls j v hv
    rw [cvC, hv]; exact abv_of k.lq k.li k.hq k.hi
  · rw [crl_congr (B' := cvR rs) (fun j hj => ?_), h.rk]
    rw [h.rk] at hj
    obtain ⟨v, hv⟩ : ∃ x, rs[j]? = some x := ⟨_, List.getElem?_eq_getElem hj⟩
    obtain ⟨_, k⟩ := h.rls j v hv
    rw [cvR, hv]; exact abv_of k.lq k.li k.hq k.hi
theorem MoV.row {L w M q cs rs} (h : MoV L w M q cs rs) (e : chkE M = 0) (z : ByteArray) : atRow M z = plc (idx (nmR rs) z rs.length 0) := by
  rw [atRow, if_pos e, idx_congr (S' := nmR rs) (fun j _ hj => h.nmr j (by omega)), h.rk]
theorem MoV.col {L w M q cs rs} (h : MoV L w M q cs rs) (e : chkE M = 0) (z : ByteArray) : atCol M z = plc (idx (nmC cs) z cs.length 0) := by
  rw [atCol, if_pos e, idx_congr (S' := nmC cs) (fun j _ hj => h.nmc j (by omega)), h.ck]
end Go.Proofs.YtlemkhgicdnlnaaGreat
namespace Go.Proofs.YtlemkhgicdnlnaaGreat
open Go.RowKit

/-- A number that can be read, as long as memory bears. -/
def NmB (w : World) (t : Nm) : Prop := Rw w t.x t.n t.c t.f t.y t.m t.d t.g ∧ t.n ≤ 17592186044416 ∧ t.m ≤ 17592186044416
theorem NmB.below {w w' t} (h : NmB w t) (hb : Below w.heap.size w w') : NmB w' t := ⟨h.1.below hb, h.2⟩
theorem NmB.kp {w w' t} (h : NmB w t) (hb : Kp w w') : NmB w' t := ⟨h.1.kp hb, h.2⟩
theorem Tr.of {w w' ao k col T} (h : Tr w ao k col T) (hb : k ≠ 0 → ∀ b o s, ao = some ⟨b, o, s⟩ → b < w.heap.size → w'.heap[b]? = w.heap[b]?) (hk : Kp w w') : Tr w' ao k col T := fun j hj => by
  obtain ⟨b, o, e, ⟨c0, c1, c2, c3⟩, h2⟩ := h j hj
  have := hb (by omega) b o none e (World.block_lt_of_cell? w _ c0)
  exact ⟨b, o, e, ⟨(World.cell?_of_block (a := ⟨b, o + j * 4, none⟩) this).trans c0, (World.cell?_of_block (a := ⟨b, o + j * 4 + 1, none⟩) this).trans c1, (World.cell?_of_block (a := ⟨b, o + j * 4 + 2, none⟩) this).trans c2, (World.cell?_of_block (a := ⟨b, o + j * 4 + 3, none⟩) this).trans c3⟩, h2.kp hk⟩
def nz9 : Nm := ⟨false, none, 0, 0, fun _ => 0, none, 0, 0, fun _ => 0⟩
def TT (base : Nat) (ta : Option Addr) (tk : Nat) (col : Nat → Int) (T : Nat → Nm) (v : Value) (w : World) : Prop := ∃ aw cw T', v = .slice aw tk cw ∧ (∀ b o s, aw = some ⟨b, o, s⟩ → base ≤ b) ∧ Tr w aw tk col T' ∧ (∀ j, j < tk → Sn (T j) (T' j)) ∧ ta = ta
theorem TT.below {base ta tk col T v w w'} (h : TT base ta tk col T v w) (hb : Below w.heap.size w w') : TT base ta tk col T v w' := by obtain ⟨aw, cw, T', h1, h2, h3, h4⟩ := h; exact ⟨aw, cw, T', h1, h2, h3.below hb, h4⟩
theorem Tr.lt {w ta tk col T} (h : Tr w ta tk col T) (hk : tk ≠ 0) : ∀ b o s, ta = some ⟨b, o, s⟩ → b < w.heap.size := fun b o s e => by
  obtain ⟨b', o', e', h4, _⟩ := h 0 (by omega)
  rw [e] at e'; cases e'
  exact World.block_lt_of_cell? w _ h4.x0
end Go.Proofs.YtlemkhgicdnlnaaGreat
namespace Go.Proofs.YtlemkhgicdnlnaaGreat
open Go.RowKit

end Go.Proofs.YtlemkhgicdnlnaaGreat
namespace Go.Proofs.YtlemkhgicdnlnaaGreat
open Go.RowKit

/-- The least of the errors 3, 5, 6, 7 that have come up. -/
def ev (b3 b5 b6 b7 : Bool) : Int := if b3 then 3 else if b5 then 5 else if b6 then 6 else if b7 then 7 else 0
end Go.Proofs.YtlemkhgicdnlnaaGreat
namespace Go.Proofs.YtlemkhgicdnlnaaGreat
open Go.RowKit

end Go.Proofs.YtlemkhgicdnlnaaGreat
namespace Go.Proofs.YtlemkhgicdnlnaaGreat
open Go.RowKit

theorem Sn.exF {a b : Ex} (hi : b.i = a.i) (h : Sn a.v b.v) : exF b = exF a := by
  obtain ⟨h1, h2, h3, h4, h5⟩ := h
  unfold Go.Proofs.YtlemkhgicdnlnaaGreat.exF
  rw [hi, h1, h2, h3, h4, h5]
end Go.Proofs.YtlemkhgicdnlnaaGreat
namespace Go.Proofs.YtlemkhgicdnlnaaGreat
open Go.ChangeShapes Go.WideShapes Go.ChangeAt Go.RowKit

theorem all_mem {H : Type} {P : Program} {e : TypeId} : ∀ {l : List (DataW H)} {d : DataW H}, d ∈ l → ∀ n ∈ d.weights P e, n ∈ DataW.weightsAll P e l
  | x :: l, d, h, n, hn => by
    simp only [DataW.weightsAll, List.mem_append]
    rcases List.mem_cons.1 h with rfl | h
    · exact .inl hn
    · exact .inr (all_mem h n hn)
/-- What is read takes no more than an argument may. -/
def Wt {H : Type} (P : Program) (t : TypeId) (x : DataW H × List MemPlace) : Prop := ∀ n ∈ x.1.weights P t, n ≤ reachBytes
theorem fieldsW {H : Type} {enc : TypeId × Value → H} {P : Program} {w : World} {t : TypeId} {fs : Array Field} {fuel : Nat} {cs : List Value} {x : DataW H × List MemPlace} (ht : P.underlying t = some (.struct fs)) (h : DataW.trod enc P w 0 (fun _ => true) true fuel t cs = some x) (hw : Wt P t x) :
    ∃ k, ∀ (i : Nat) (f : Field), fs[i]? = some f → ∃ y, DataW.trod enc P w 0 (fun _ => true) true k f.type ((cs.drop f.offset).take (P.cellsOf f.type)) = some y ∧ Wt P f.type y := by
  obtain ⟨xs, k, _, rfl, _, hlen, hf⟩ := DataW.trod_struct ht h
  refine ⟨k, fun i f hi => ?_⟩
  have hlt : i < xs.length := by rw [hlen]; exact (Array.getElem?_eq_some_iff.1 hi).1
  refine ⟨xs[i], by rw [hf i f hi, List.getElem?_eq_getElem hlt], fun n hn => hw n ?_⟩
  show n ∈ (DataW.agg (xs.map (·.1))).weights P t
  simp only [DataW.weights, ht]
  refine DataW.weights_mem_each (j := i) (t := f.type) (d := (xs[i]).1) ?_ ?_ n hn
  · simp [hi]
  · simp [hlt]
theorem sliceW {H : Type} {enc : TypeId × Value → H} {P : Program} {w : World} {t e : TypeId} {fuel : Nat} {cs : List Value} {x : DataW H × List MemPlace} (ht : P.underlying t = some (.slice e)) (h : DataW.trod enc P w 0 (fun _ => true) true fuel t cs = some x) (hw : Wt P t x) :
    cs = [.slice none 0 0] ∨ ∃ (a : Addr) (len cap k : Nat), cs = [.slice (some a) len cap] ∧ len ≤ cap ∧ cap ≤ maxLen ∧ cap * P.bytesOf e ≤ reachBytes ∧
      ∀ i, i < len → ∃ cs' y, w.cells? 0 (a.add (i * P.cellsOf e)) (P.cellsOf e) = some cs' ∧ DataW.trod enc P w 0 (fun _ => true) true k e cs' = some y ∧ Wt P e y := by
  rcases Go.Deep.open_slice ht h with ⟨hcs, _⟩ | ⟨a, len, cap, m, n, D, Pl, hcs, _, hl, hm, hmm, rfl, hel⟩
  · exact .inl hcs
  · simp only [if_true] at hmm
    subst hmm
    refine .inr ⟨a, len, m, n, hcs, hl, hm, ?_, fun i hi => ?_⟩
    · refine hw _ ?_
      simp only [DataW.weights, ht, List.length_map, List.length_range]
      rw [show len + (m - len) = m by omega]
      exact List.mem_cons_self
    · obtain ⟨cs', h1, h2⟩ := hel i (by omega)
      refine ⟨cs', _, h1, h2, fun k hk => hw k ?_⟩
      simp only [DataW.weights, ht]
      exact List.mem_cons_of_mem _ (List.mem_append_left _ (all_mem (d := D i) (List.mem_map.2 ⟨i, List.mem_range.2 hi, rfl⟩) k hk))
theorem Tryz.bytesU64 : Tryz.prog.bytesOf 96 = 8 := by kernel_rfl
theorem Tryz.cellsU : Tryz.prog.cellsOf 96 = 1 := by kernel_rfl
set_option maxRecDepth 100000 in
/-- A list of limbs. -/
theorem viewLW {H : Type} {enc : TypeId × Value → H} {W : World} {fuel : Nat} {v : Value} {x : DataW H × List MemPlace} (h : DataW.trod enc Tryz.prog W 0 (fun _ => true) true fuel 22 [v] = some x) (hw : Wt Tryz.prog 22 x) :
    ∃ ao n cap f, v = .slice ao n cap ∧ Rd .u64 W ao n f ∧ Lm f n ∧ (ao = none → n = 0 ∧ cap = 0) ∧ (n ≤ cap ∧ cap ≤ 9223372036854775807) ∧ n ≤ 17592186044416 := by
  rcases open_ints Tryz.underlying22 Tryz.underlying96 Tryz.cellsU h with ⟨hcs, hx⟩ | ⟨a, len', cap', zs, hcs, _, hl, hm, hz, hx, hcell, hwz⟩
  · simp at hcs
    subst hcs
    exact ⟨none, 0, 0, fun _ => 0, rfl, Rd.zero, fun j hj => by omega, fun _ => ⟨rfl, rfl⟩, ⟨by omega, by omega⟩, by omega⟩
  · simp at hcs
    subst hcs
    simp only [if_true] at hz
    have hb : cap' * 8 ≤ reachBytes := by
      have : cap' * Tryz.prog.bytesOf 96 ≤ reachBytes := by
        refine hw _ ?_
        rw [hx]
        simp only [DataW.weights, Tryz.underlying22]
        have e : (lits .u64 (zs.take len') : List (DataW H)).length + (lits .u64 (zs.drop len') : List (DataW H)).length = cap' := by simp [lits]; omega
        rw [e]
        exact List.mem_cons_self
      rw [Tryz.bytesU64] at this
      exact this
    refine ⟨some a, len', cap', fun j => zs.getD j 0, rfl, fun j hj => ?_, fun j hj => ?_, (fun h => by cases h), ⟨hl, by unfold maxLen at hm; omega⟩, by unfold reachBytes at hb; omega⟩
    · obtain ⟨b, off, spot⟩ := a
      have hspot : spot = none := by simpa [Addr.add] using World.cell?_spot (hcell 0 (by omega))
      subst hspot
      exact ⟨b, off, rfl, by have := hcell j (by omega); rwa [addr_add] at this⟩
    · have hmem : zs.getD j 0 ∈ zs := by
        rw [List.getD_eq_getElem?_getD, List.getElem?_eq_getElem (by omega)]
        exact List.getElem_mem _
      have := bounds_u64 (hwz _ hmem)
      show 0 ≤ zs.getD j 0 ∧ zs.getD j 0 < 18446744073709551616
      omega
set_option maxRecDepth 100000 in
/-- Three cells that are a number. -/
theorem viewNW {H : Type} {enc : TypeId × Value → H} {W : World} {k : Nat} {c0 c1 c2 : Value} {z : DataW H × List MemPlace} (hf : DataW.trod enc Tryz.prog W 0 (fun _ => true) true k 24 [c0, c1, c2] = some z) (hw : Wt Tryz.prog 24 z) :
    ∃ t : Nm, c0 = .bool t.s ∧ c1 = .slice t.x t.n t.c ∧ c2 = .slice t.y t.m t.d ∧ NmB W t := by
  obtain ⟨k, hk⟩ := fieldsW Tryz.underlying24 hf hw
  obtain ⟨y0, h0, _⟩ := hk 0 _ rfl
  obtain ⟨y1, h1, w1⟩ := hk 1 _ rfl
  obtain ⟨y2, h2, w2⟩ := hk 2 _ rfl
  have h0' : DataW.trod enc Tryz.prog W 0 (fun _ => true) true k 4 [c0] = some y0 := h0
  have h1' : DataW.trod enc Tryz.prog W 0 (fun _ => true) true k 22 [c1] = some y1 := h1
  have h2' : DataW.trod enc Tryz.prog W 0 (fun _ => true) true k 22 [c2] = some y2 := h2
  obtain ⟨s, hs, _⟩ := DataW.trod_bool Tryz.underlying4 h0'
  obtain ⟨ao, n, cap, f, rfl, hr, hlm, hnil, hc, hl⟩ := viewLW h1' w1
  obtain ⟨bo, m, cap', g, rfl, hr', hlm', hnil', hc', hl'⟩ := viewLW h2' w2
  simp at hs
  exact ⟨⟨s, ao, n, cap, f, bo, m, cap', g⟩, hs, rfl, rfl, ⟨hr, hlm, hc, hnil, hr', hlm', hc', hnil'⟩, hl, hl'⟩
/-- Cells in a row, each by itself. -/
theorem cells_atW {w : World} {base n : Nat} {a : Addr} {cs : List Value} (h : w.cells? base a n = some cs) : cs.length = n ∧ ∀ (i : Nat) u, cs[i]? = some u → w.cell? (a.add i) = some u := by
  obtain ⟨_, h1, h2⟩ := World.cells?_some h
  refine ⟨h1, fun i u hi => ?_⟩
  have hlt : i < n := by rw [← h1]; exact (List.getElem?_eq_some_iff.1 hi).1
  rw [← hi]; exact h2 i hlt
theorem add_addW (a : Addr) (j i : Nat) : (a.add j).add i = a.add (j + i) := by
  obtain ⟨b, o, s⟩ := a
  by_cases hj : j = 0
  · subst hj; by_cases hi : i = 0
    · subst hi; simp [Addr.add]
    · simp [Addr.add, hi]
  · by_cases hi : i = 0
    · subst hi; simp [Addr.add, hj]
    · simp [Addr.add, hi, hj, Nat.add_assoc]
theorem cs_of {w : World} {base n : Nat} {b o j : Nat} {cs : List Value} (h : w.cells? base (Addr.add ⟨b, o, none⟩ (j * n)) n = some cs) : Cs w b (o + j * n) cs := fun i v e => by
  have := (cells_atW h).2 i v e
  rw [add_addW, addr_add] at this
  rw [Nat.add_assoc]; exact this
theorem spot_of {w : World} {base n : Nat} {a : Addr} {cs : List Value} (h : w.cells? base (a.add (0 * n)) n = some cs) (hn : 0 < n) : a.spot = none := by
  obtain ⟨h1, h2⟩ := cells_atW h
  have := h2 0 cs[0] (List.getElem?_eq_getElem (by omega))
  rw [add_addW, Nat.zero_mul] at this
  simpa [Addr.add] using World.cell?_spot this
end Go.Proofs.YtlemkhgicdnlnaaGreat
namespace Go.Proofs.YtlemkhgicdnlnaaGreat
open Go.ChangeShapes Go.WideShapes Go.ChangeAt Go.RowKit

theorem Tryz.own : ownKnob Tryz.prog.godebug = none := by kernel_rfl
theorem Tryz.laidOut : laidOutB Tryz.prog = true := by kernel_rfl
end Go.Proofs.YtlemkhgicdnlnaaGreat
namespace Go.Proofs.YtlemkhgicdnlnaaGreat
open Go.ChangeShapes Go.WideShapes Go.ChangeAt Go.RowKit

theorem Tryz.bytesRat : Tryz.prog.bytesOf 24 = 56 := by kernel_rfl
theorem Tryz.cellsRat : Tryz.prog.cellsOf 24 = 3 := by kernel_rfl
theorem Tryz.cellsY : Tryz.prog.cellsOf 31 = 2 := by kernel_rfl
theorem Tryz.readY : Tryz.prog.readableRec 31 = true := by kernel_rfl
theorem Tryz.sizeY : 31 < Tryz.prog.types.size := of_decide_eq_true (by kernel_rfl)
set_option maxRecDepth 100000 in
/-- A list of numbers. -/
theorem viewQW {H : Type} {enc : TypeId × Value → H} {W : World} {fuel : Nat} {v : Value} {x : DataW H × List MemPlace} (h : DataW.trod enc Tryz.prog W 0 (fun _ => true) true fuel 29 [v] = some x) (hw : Wt Tryz.prog 29 x) :
    ∃ ao k c X, v = .slice ao k c ∧ Rr W ao k X ∧ k ≤ 9223372036854775807 := by
  rcases sliceW Tryz.underlying29 h hw with hcs | ⟨a, len, cap, k, hcs, hl, hm, hb, hel⟩
  · simp at hcs
    exact ⟨none, 0, 0, fun _ => nz9, hcs, fun j hj => by omega, by omega⟩
  · simp at hcs
    rw [Tryz.cellsRat] at hel
    rw [Tryz.bytesRat] at hb
    have hX : ∀ j, ∃ t : Nm, j < len → W.cells? 0 (a.add (j * 3)) 3 = some [.bool t.s, .slice t.x t.n t.c, .slice t.y t.m t.d] ∧ NmB W t := fun j => by
      by_cases hj : j < len
      · obtain ⟨cs', y, h1, h2, w2⟩ := hel j hj
        match cs', (cells_atW h1).1 with
        | [c0, c1, c2], _ =>
          obtain ⟨t, e1, e2, e3, ht⟩ := viewNW h2 w2
          subst e1; subst e2; subst e3
          exact ⟨t, fun _ => ⟨h1, ht⟩⟩
      · exact ⟨nz9, fun h => absurd h hj⟩
    have hX' : ∃ Z : Nat → Nm, ∀ j, j < len → W.cells? 0 (a.add (j * 3)) 3 = some [.bool (Z j).s, .slice (Z j).x (Z j).n (Z j).c, .slice (Z j).y (Z j).m (Z j).d] ∧ NmB W (Z j) := ⟨fun j => Classical.choose (hX j), fun j => Classical.choose_spec (hX j)⟩
    obtain ⟨Z, hZ⟩ := hX'
    refine ⟨some a, len, cap, Z, hcs, fun j hj => ?_, by unfold reachBytes at hb; omega⟩
    have hs := spot_of (n := 3) (hZ 0 (by omega)).1 (by decide)
    obtain ⟨b, o, sp⟩ := a
    simp only at hs
    subst hs
    have hc := cs_of (hZ j hj).1
    exact ⟨b, o, rfl, ⟨hc 0 _ rfl, hc 1 _ rfl, hc 2 _ rfl⟩, (hZ j hj).2.1⟩
set_option maxRecDepth 100000 in
/-- An argument that is a ray. -/
theorem viewY {H : Type} {enc : TypeId × Value → H} {W : World} {base : Nat} {v : Value} {d : DataW H} {p : List MemPlace} (hok : Value.okWide Tryz.prog W .any base 31 v) (h : DataW.Trod enc Tryz.prog W 0 (fun _ => true) true 31 v d p) (hw : ∀ n ∈ d.weights Tryz.prog 31, n ≤ reachBytes) :
    ∃ a0 k0 c0 X0 a1 k1 c1 X1, v = .agg #[.slice a0 k0 c0, .slice a1 k1 c1] ∧ Rr W a0 k0 X0 ∧ Rr W a1 k1 X1 ∧ k0 ≤ 9223372036854775807 ∧ k1 ≤ 9223372036854775807 := by
  obtain ⟨cs, rfl, hsz⟩ := okWide_struct Tryz.underlying31 hok
  rw [Tryz.cellsY] at hsz
  obtain ⟨fuel, hf⟩ := h
  obtain ⟨l⟩ := cs
  match l, hsz with
  | [v0, v1], _ =>
    obtain ⟨k, hk⟩ := fieldsW (x := (d, p)) Tryz.underlying31 hf hw
    obtain ⟨y0, g0, w0⟩ := hk 0 _ rfl
    obtain ⟨y1, g1, w1⟩ := hk 1 _ rfl
    have g0' : DataW.trod enc Tryz.prog W 0 (fun _ => true) true k 29 [v0] = some y0 := g0
    have g1' : DataW.trod enc Tryz.prog W 0 (fun _ => true) true k 29 [v1] = some y1 := g1
    obtain ⟨a0, k0, c0, X0, rfl, h0, l0⟩ := viewQW g0' w0
    obtain ⟨a1, k1, c1, X1, rfl, h1, l1⟩ := viewQW g1' w1
    exact ⟨a0, k0, c0, X0, a1, k1, c1, X1, rfl, h0, h1, l0, l1⟩
theorem Tryz.readRq : Tryz.prog.readableRec 24 = true := by kernel_rfl
theorem Tryz.sizeRq : 24 < Tryz.prog.types.size := of_decide_eq_true (by kernel_rfl)
set_option maxRecDepth 100000 in
/-- An argument that is a number. -/
theorem viewRq {H : Type} {enc : TypeId × Value → H} {W : World} {base : Nat} {v : Value} {d : DataW H} {p : List MemPlace} (hok : Value.okWide Tryz.prog W .any base 24 v) (h : DataW.Trod enc Tryz.prog W 0 (fun _ => true) true 24 v d p) (hw : ∀ n ∈ d.weights Tryz.prog 24, n ≤ reachBytes) :
    ∃ t : Nm, v = .agg #[.bool t.s, .slice t.x t.n t.c, .slice t.y t.m t.d] ∧ NmB W t := by
  obtain ⟨cs, rfl, hsz⟩ := okWide_struct Tryz.underlying24 hok
  rw [Tryz.cellsRat] at hsz
  obtain ⟨fuel, hf⟩ := h
  obtain ⟨l⟩ := cs
  match l, hsz with
  | [v0, v1, v2], _ =>
    obtain ⟨t, e1, e2, e3, ht⟩ := viewNW (z := (d, p)) hf hw
    subst e1; subst e2; subst e3
    exact ⟨t, rfl, ht⟩
end Go.Proofs.YtlemkhgicdnlnaaGreat
namespace Go.Proofs.YtlemkhgicdnlnaaGreat
open Go.RowKit
end Go.Proofs.YtlemkhgicdnlnaaGreat

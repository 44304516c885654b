/-
  Walks of the document's reference for rat: From, Neg, Sign, Add. Walks of the document's reference for whole: Divide. The walk of package rat's call Cmp. Walks of the document's reference for rat: Add, Sub, Cmp. Walks of rat's Sign and Cmp, whatever they are handed, and of the document's: DocSign, DocCmp. Walks of the document's reference for rat: Mul, Quo, Int, To, DocOf, DocNeg. Walks of rat's calls where they tell that a number is not in form, and of the document's Doc, DocNeg there; DocNeg. Walks of the document's reference for rat: Int, DocOf. The walk of the document's reference for rat: Doc, of numbers in form. Walks of rat's Add, Sub, Mul, Quo, whatever they are handed, and of the statements' call. The walk of rat.Of. Boxes of four cells. No Go text is named here. Package vec's calls on lists in form, by their values; lists that are put together by their terms. The reference's Same and Sames of lists with the same values.
-/
import Derived.Test.YthofcgpghbaccaaGreatZ9
import Derived.Test.YthofcgpghbaccaaGreatZ6
import Derived.Test.YthofcgpghbaccaaGreatZ8
import Derived.BigQuiet
import Derived.Deep.RegionHeld3
namespace Go.Proofs.YthofcgpghbaccaaGreat
open Go.RowKit

/-- A rational number of the reference. -/
structure Qn (w : World) (s : Bool) (x : Option Addr) (n : Nat) (d : Nat → Int) (y : Option Addr) (m : Nat) (g : Nat → Int) (q : Rat) : Prop where
  num : Zn w s x n d q.num
  den : Dn w y m g q.den
theorem Qn.below {w w' s x n d y m g q} (h : Qn w s x n d y m g q) (hb : Below w.heap.size w w') : Qn w' s x n d y m g q := ⟨h.num.below hb, h.den.below hb⟩
theorem Qn.alloc {w s x n d y m g q} (h : Qn w s x n d y m g q) (o : Obj) : Qn (w.alloc o) s x n d y m g q := ⟨h.num.alloc o, h.den.alloc o⟩
theorem kQd {w s x n d y m g q} (h : Qn w s x n d y m g q) : Qn w.drew s x n d y m g q := ⟨⟨h.num.dn.drew, h.num.sgn, h.num.pos⟩, h.den.drew⟩
theorem kQb {w w' s x n d y m g q} (hb : Below w.heap.size w w') (h : Qn w s x n d y m g q) : Qn w' s x n d y m g q := h.below hb
theorem Ob.zn {w B u0 u1 u2 s x n d v} (h : Ob w B) (hx : Zn w s x n d v) : Zn (((w.setCell ⟨B, 0, none⟩ u0).setCell ⟨B, 1, none⟩ u1).setCell ⟨B, 2, none⟩ u2) s x n d v := ⟨h.dn hx.dn, hx.sgn, hx.pos⟩
theorem Ob.qn {w B u0 u1 u2 s x n d y m g q} (h : Ob w B) (hx : Qn w s x n d y m g q) : Qn (((w.setCell ⟨B, 0, none⟩ u0).setCell ⟨B, 1, none⟩ u1).setCell ⟨B, 2, none⟩ u2) s x n d y m g q := ⟨h.zn hx.num, h.dn hx.den⟩
/-- What a call answers: a rational number of the reference. -/
def QAns (L : Nat) (w w' : World) (e : Ending) (q : Rat) : Prop := ∃ s x n c d y m c' g, e = .returned (.agg #[.bool s, .slice x n c, .slice y m c']) ∧ Below w.heap.size w w' ∧ n ≤ L ∧ m ≤ L ∧ Qn w' s x n d y m g q
theorem qbox1 {w : World} (a0 a1 a2 : Value) (t u : TypeId) :
    Bx3 ((w.alloc (.cells #[a0, a1, a2] t)).alloc (.cells #[.bool false, .slice none 0 0, .slice none 0 0] u)) w.heap.size a0 a1 a2 ∧ Ob ((w.alloc (.cells #[a0, a1, a2] t)).alloc (.cells #[.bool false, .slice none 0 0, .slice none 0 0] u)) (w.heap.size + 1) ∧ Below w.heap.size w ((w.alloc (.cells #[a0, a1, a2] t)).alloc (.cells #[.bool false, .slice none 0 0, .slice none 0 0] u)) := by
  have h3 := ob_new (w.alloc (.cells #[a0, a1, a2] t)) u
  rw [size_alloc1] at h3
  exact ⟨(bx3_at w a0 a1 a2 t).below (below_alloc (Below.refl _ _) _), h3, below_alloc (below_alloc (Below.refl w.heap.size w) _) _⟩

set_option maxRecDepth 100000 in
set_option maxHeartbeats 8000000 in
theorem qFrom_c {L : Nat} {w : World} {s : Bool} {x : Option Addr} {n c : Nat} {f : Nat → Int} {y : Option Addr} {m d : Nat} {g : Nat → Int} {q : Rat} (h : Rn L w s x n c f y m d g q) (hL : L ≤ 16384) :
    Calls Tryz.prog 34 #[.agg #[.bool s, .slice x n c, .slice y m d]] w fun e w' => QAns (2 * L) w w' e q := by
  obtain ⟨h1, h2, h3⟩ := qbox1 (w := w) (.bool s) (.slice x n c) (.slice y m d) 25 63
  have h4 := (h.alloc (.cells #[.bool s, .slice x n c, .slice y m d] 25)).alloc (.cells #[.bool false, .slice none 0 0, .slice none 0 0] 63)
  clear h
  go_enter Tryz.func34, Tryz.ntmps34
  go_wp2_with fail
  generalize (w.alloc (.cells #[.bool s, .slice x n c, .slice y m d] 25)).alloc (.cells #[.bool false, .slice none 0 0, .slice none 0 0] 63) = w1 at *
  have HN := hid h4; have OB := hid h2; have HW := hid h3
  obtain ⟨z, x0, x1, x2⟩ := h1
  obtain ⟨hz, z0, z1, z2, zf⟩ := h2
  have hln := h4.ln; have hld := h4.ld
  clear h3 h4
  have C1 : Hid (∀ W, Below w1.heap.size w1 W → Calls Tryz.prog 65 #[.slice x n c] W fun e w' => ∃ z k c d, e = .returned (.slice z k c) ∧ Below W.heap.size W w' ∧ Hid (k ≤ 2 * n ∧ Dn w' z k d (vf f n).toNat)) := fun W hW => fromD_c (by omega) (HN.out.below hW).num.rd HN.out.num.lm
  have C2 : Hid (∀ W, Below w1.heap.size w1 W → Calls Tryz.prog 65 #[.slice y m d] W fun e w' => ∃ z k c d, e = .returned (.slice z k c) ∧ Below W.heap.size W w' ∧ Hid (k ≤ 2 * m ∧ Dn w' z k d (vf g m).toNat)) := fun W hW => fromD_c (by omega) (HN.out.below hW).den.rd HN.out.den.lm
  go_region_held3 (fun w' => w'.cell? ⟨w.heap.size, 0, none⟩ = some (.bool s) ∧ w'.cell? ⟨w.heap.size, 1, none⟩ = some (.slice x n c) ∧ w'.cell? ⟨w.heap.size, 2, none⟩ = some (.slice y m d) ∧ (w'.cell? ⟨w.heap.size + 1, 0, none⟩).isSome = true ∧ (w'.cell? ⟨w.heap.size + 1, 1, none⟩).isSome = true ∧ (w'.cell? ⟨w.heap.size + 1, 2, none⟩).isSome = true ∧ w'.frozen? ⟨w.heap.size + 1, 0, none⟩ = false ∧ w'.frozen? ⟨w.heap.size + 1, 1, none⟩ = false ∧ w'.frozen? ⟨w.heap.size + 1, 2, none⟩ = false)
    (refine ⟨?_, ?_, ?_, ?_, ?_, ?_, ?_, ?_, ?_⟩ <;> repeat (with_reducible first | assumption | exact zf _ | exact tf _ | exact uf _ | exact kI0 z0 | exact kI0 z1 | exact kI0 z2 | exact kI0 t0 | exact kI0 t1 | exact kI0 t2 | exact kI0 u0 | exact kI0 u1 | exact kI0 u2 | refine kCd ?_ | refine kId ?_ | refine kFd ?_ | refine kCs (by simp only [ne_eq]; omega) ?_ | refine kIs ?_ | refine kFs ?_ | refine kCb (by assumption) ?_ | refine kIb (by assumption) ?_))
    (first
      | (go_at_call 65; with_reducible refine (C1.out _ (by repeat (with_reducible first | assumption | exact Below.refl _ _ | refine Below.drew ?_ | refine kBb (by assumption) ?_))).mono ?_; rintro e v5 ⟨z5, k5, c5, d5, rfl, hb5, H5⟩; have Tt : Ob v5 (w.heap.size + 1) := (by repeat (with_reducible first | exact OB.out | exact Tt | refine Ob.drew ?_ | refine kOb (by assumption) ?_)); obtain ⟨_, t0, t1, t2, tf⟩ := id Tt)
      | (go_at_call 65; with_reducible refine (C2.out _ (by repeat (with_reducible first | assumption | exact Below.refl _ _ | refine Below.drew ?_ | refine kBb (by assumption) ?_))).mono ?_; rintro e v6 ⟨z6, k6, c6, d6, rfl, hb6, H6⟩; have Tu : Ob v6 (w.heap.size + 1) := (by repeat (with_reducible first | exact OB.out | exact Tt | exact Tu | refine Ob.drew ?_ | refine kOb (by assumption) ?_)); obtain ⟨_, u0, u1, u2, uf⟩ := id Tu))
  all_goals
    have D5 : Dn v6 z5 k5 d5 (vf f n).toNat := (by repeat (with_reducible first | exact H5.out.2 | refine Dn.drew ?_ | refine kDb (by assumption) ?_))
    have hb : Below w1.heap.size w1 v6 := (by repeat (with_reducible first | assumption | exact Below.refl _ _ | refine Below.drew ?_ | refine kBb (by assumption) ?_))
    have e1 : (vf f n).toNat = q.num.natAbs := by rw [← natAbs_wv (s := s) HN.out.num.lm, HN.out.num.val]
    have e2 : (vf g m).toNat = q.den := by
      have := HN.out.den.val
      rw [wv_false] at this; omega
    have D6 := H6.out.2
    rw [e1] at D5
    rw [e2] at D6
    have hk5 := H5.out.1; have hk6 := H6.out.1
    go_wp2
    refine bodyPost_ret (v := .agg #[.bool s, .slice z5 k5 c5, .slice z6 k6 c6]) (by simp [results, Tryz.results34, go_sem, u0, u1, u2]) rfl ⟨s, z5, k5, c5, d5, z6, k6, c6, d6, rfl, below_st (HW.out.trans (hb.mono HW.out.size)) (by omega), by omega, by omega, Tu.qn ⟨⟨D5, HN.out.num.sgn, fun hs => ?_⟩, D6⟩⟩
    subst hs
    have hnz : 0 < n := ((wfB_iff _ _ _).1 HN.out.num.wf).2 rfl
    have := vf_pos HN.out.num.lm (fm_of_wfB HN.out.num.wf) hnz
    exact D5.pos (by omega)

theorem qSign_c {w : World} {s : Bool} {x : Option Addr} {n c : Nat} {d : Nat → Int} {y : Option Addr} {m e : Nat} {g : Nat → Int} {q : Rat} (h : Qn w s x n d y m g q) (hn : n ≤ 1048576) :
    Calls Tryz.prog 79 #[.agg #[.bool s, .slice x n c, .slice y m e]] w fun en w' => ∃ c, en = .returned (.int .i64 c) ∧ Below w.heap.size w w' ∧ Ord c q.num 0 := by
  have h1 := bx3_at w (.bool s) (.slice x n c) (.slice y m e) 63
  have h3 := below_alloc (Below.refl w.heap.size w) (.cells #[.bool s, .slice x n c, .slice y m e] 63)
  have h4 := h.alloc (.cells #[.bool s, .slice x n c, .slice y m e] 63)
  clear h
  go_enter Tryz.func79, Tryz.ntmps79
  go_wp2_with fail
  generalize w.alloc (.cells #[.bool s, .slice x n c, .slice y m e] 63) = w1 at *
  refine (zSign_c h4.num hn).mono ?_
  rintro en w2 ⟨cc, rfl, hb, ho⟩
  have HO := hid ho; have HB := hid (h3.trans (hb.mono h3.size))
  clear h1 h3 h4 hb ho
  go_wp2
  go_ret
  exact ⟨cc, rfl, HB.out, HO.out⟩
end Go.Proofs.YthofcgpghbaccaaGreat
namespace Go.Proofs.YthofcgpghbaccaaGreat
open Go.RowKit

/-- A box that holds a sign and a list, and may be written. -/
structure X2 (w : World) (B : Nat) (s : Bool) (x : Option Addr) (n c : Nat) : Prop where
  z : B < w.heap.size
  c0 : w.cell? ⟨B, 0, none⟩ = some (.bool s)
  c1 : w.cell? ⟨B, 1, none⟩ = some (.slice x n c)
  zf : ∀ o, w.frozen? ⟨B, o, none⟩ = false
theorem X2.below {w w' B s x n c} (h : X2 w B s x n c) (hb : Below w.heap.size w w') : X2 w' B s x n c := by
  obtain ⟨h1, h2⟩ := bcell hb
  exact ⟨Nat.lt_of_lt_of_le h.z hb.size, kCb hb h.c0, kCb hb h.c1, fun o => (h2 _ _ h.z).trans (h.zf o)⟩
theorem x2_new (w : World) (t : TypeId) (s : Bool) (x : Option Addr) (n c : Nat) : X2 (w.alloc (.cells #[.bool s, .slice x n c] t)) w.heap.size s x n c := by
  refine ⟨by simp, by simp [go_sem], by simp [go_sem], fun o => ?_⟩
  have e := heap_alloc_new w (.cells #[.bool s, .slice x n c] t)
  simp only [World.frozen?, e]; simp
/-- A number stored into such a box. -/
theorem X2.put {w B s x n c} (h : X2 w B s x n c) (r : Bool) (y : Option Addr) (m d : Nat) : X2 ((w.setCell ⟨B, 0, none⟩ (.bool r)).setCell ⟨B, 1, none⟩ (.slice y m d)) B r y m d :=
  ⟨by simpa [World.setCell] using h.z, kCo (by decide) (kCe (kI0 h.c0)), kCe (kIs (kI0 h.c1)), fun o => kFs (kFs (h.zf o))⟩
theorem X2.dn {w B s x n c u0 u1 y m d V} (h : X2 w B s x n c) (hx : Dn w y m d V) : Dn ((w.setCell ⟨B, 0, none⟩ u0).setCell ⟨B, 1, none⟩ u1) y m d V :=
  ⟨rd_setne (cell_off (by decide) h.c1) (fun i h => by cases h) (rd_setne h.c0 (fun i h => by cases h) hx.rd), hx.dg, hx.fm, hx.val⟩
theorem X2.zn {w B s x n c u0 u1 t y m d v} (h : X2 w B s x n c) (hx : Zn w t y m d v) : Zn ((w.setCell ⟨B, 0, none⟩ u0).setCell ⟨B, 1, none⟩ u1) t y m d v := ⟨h.dn hx.dn, hx.sgn, hx.pos⟩
theorem X2.drew {w B s x n c} (h : X2 w B s x n c) : X2 w.drew B s x n c := ⟨h.z, h.c0, h.c1, h.zf⟩
theorem kX2b {w w' B s x n c} (hb : Below w.heap.size w w') (h : X2 w B s x n c) : X2 w' B s x n c := h.below hb
theorem Ob2.x2 {w B} (h : Ob2 w B) : X2 w B false none 0 0 := ⟨h.z, h.z0, h.z1, h.zf⟩
theorem Ob2.far {w B B' u0 u1} (h : Ob2 w B) (hB : B' ≠ B) : Ob2 ((w.setCell ⟨B', 0, none⟩ u0).setCell ⟨B', 1, none⟩ u1) B := ⟨by simpa [World.setCell] using h.z, kCs hB (kCs hB h.z0), kCs hB (kCs hB h.z1), fun o => kFs (kFs (h.zf o))⟩
theorem Bx.far {w B B' u0 u1 s x n c} (h : Bx w B s x n c) (hB : B' ≠ B) : Bx ((w.setCell ⟨B', 0, none⟩ u0).setCell ⟨B', 1, none⟩ u1) B s x n c := by
  obtain ⟨z, c0, c1⟩ := h
  exact ⟨by simpa [World.setCell] using z, kCs hB (kCs hB c0), kCs hB (kCs hB c1)⟩
theorem flr_same {u v : Int} {s t : Bool} (hst : s = t) (hu : u = sg s u.natAbs) (hv : v = sg t v.natAbs) (h0 : v ≠ 0) : Flr u v (sg false (u.natAbs / v.natAbs)) (u - sg false (u.natAbs / v.natAbs) * v) := by
  subst hst
  refine ⟨by omega, ?_⟩
  have e := Nat.div_add_mod u.natAbs v.natAbs
  have l := Nat.mod_lt u.natAbs (show 0 < v.natAbs by omega)
  have e' : (v.natAbs : Int) * (u.natAbs / v.natAbs : Nat) + (u.natAbs % v.natAbs : Nat) = u.natAbs := by exact_mod_cast e
  generalize u.natAbs / v.natAbs = Q at *
  generalize u.natAbs % v.natAbs = R at *
  have hs : sg false Q = (Q : Int) := rfl
  rw [hs]
  cases s
  · have e1 : u = u.natAbs := hu
    have e2 : v = v.natAbs := hv
    have e3 : u - Q * v = R := by rw [← e2, ← e1] at e'; rw [← e', Int.mul_comm]; omega
    rw [e3]; left; omega
  · have e1 : u = -(u.natAbs : Int) := hu
    have e2 : v = -(v.natAbs : Int) := hv
    have e3 : u - Q * v = -(R : Int) := by
      have : (Q : Int) * v = -((v.natAbs : Int) * Q) := by
        have k : (Q : Int) * v = (Q : Int) * -(v.natAbs : Int) := congrArg (fun z => (Q : Int) * z) e2
        rw [k, Int.mul_neg, Int.mul_comm]
      omega
    rw [e3]; right; omega
theorem flr_even {u v : Int} {s t : Bool} (hst : ¬ s = t) (hu : u = sg s u.natAbs) (hv : v = sg t v.natAbs) (h0 : v ≠ 0) (hR : u.natAbs % v.natAbs = 0) : Flr u v (sg true (u.natAbs / v.natAbs)) (u - sg true (u.natAbs / v.natAbs) * v) := by
  refine ⟨by omega, ?_⟩
  have e := Nat.div_add_mod u.natAbs v.natAbs
  rw [hR] at e
  have e' : (v.natAbs : Int) * (u.natAbs / v.natAbs : Nat) = u.natAbs := by exact_mod_cast e
  generalize u.natAbs / v.natAbs = Q at *
  have hs : sg true Q = -(Q : Int) := rfl
  rw [hs]
  have e3 : u - -(Q : Int) * v = 0 := by
    cases s <;> cases t
    · exact absurd rfl hst
    · have e1 : u = u.natAbs := hu
      have e2 : v = -(v.natAbs : Int) := hv
      have : -(Q : Int) * v = (v.natAbs : Int) * Q := by
        have k : -(Q : Int) * v = -(Q : Int) * -(v.natAbs : Int) := congrArg (fun z => -(Q : Int) * z) e2
        rw [k, Int.neg_mul_neg, Int.mul_comm]
      omega
    · have e1 : u = -(u.natAbs : Int) := hu
      have e2 : v = v.natAbs := hv
      have : -(Q : Int) * v = -((v.natAbs : Int) * Q) := by rw [Int.neg_mul, Int.mul_comm, ← e2]
      omega
    · exact absurd rfl hst
  rw [e3]; omega
theorem flr_rest {u v : Int} {s t : Bool} (hst : ¬ s = t) (hu : u = sg s u.natAbs) (hv : v = sg t v.natAbs) (h0 : v ≠ 0) (hR : 0 < u.natAbs % v.natAbs) : Flr u v (sg true (u.natAbs / v.natAbs) - 1) (u - (sg true (u.natAbs / v.natAbs) - 1) * v) := by
  refine ⟨by omega, ?_⟩
  have e := Nat.div_add_mod u.natAbs v.natAbs
  have l := Nat.mod_lt u.natAbs (show 0 < v.natAbs by omega)
  have e' : (v.natAbs : Int) * (u.natAbs / v.natAbs : Nat) + (u.natAbs % v.natAbs : Nat) = u.natAbs := by exact_mod_cast e
  generalize u.natAbs / v.natAbs = Q at *
  generalize u.natAbs % v.natAbs = R at *
  have hs : sg true Q = -(Q : Int) := rfl
  rw [hs, Int.sub_mul, Int.one_mul]
  cases s <;> cases t
  · exact absurd rfl hst
  · have e1 : u = u.natAbs := hu
    have e2 : v = -(v.natAbs : Int) := hv
    have : -(Q : Int) * v = (v.natAbs : Int) * Q := by
      have k : -(Q : Int) * v = -(Q : Int) * -(v.natAbs : Int) := congrArg (fun z => -(Q : Int) * z) e2
      rw [k, Int.neg_mul_neg, Int.mul_comm]
    rw [this]; omega
  · have e1 : u = -(u.natAbs : Int) := hu
    have e2 : v = v.natAbs := hv
    have : -(Q : Int) * v = -((v.natAbs : Int) * Q) := by rw [Int.neg_mul, Int.mul_comm, ← e2]
    rw [this]; omega
  · exact absurd rfl hst
theorem zboxes4 {w : World} (sa : Bool) (xa : Option Addr) (na ca : Nat) (sb : Bool) (xb : Option Addr) (nb cb : Nat) (t : TypeId) :
    Bx ((((w.alloc (.cells #[.bool sa, .slice xa na ca] t)).alloc (.cells #[.bool sb, .slice xb nb cb] t)).alloc (.cells #[.bool false, .slice none 0 0] t)).alloc (.cells #[.bool false, .slice none 0 0] t)) w.heap.size sa xa na ca ∧ Bx ((((w.alloc (.cells #[.bool sa, .slice xa na ca] t)).alloc (.cells #[.bool sb, .slice xb nb cb] t)).alloc (.cells #[.bool false, .slice none 0 0] t)).alloc (.cells #[.bool false, .slice none 0 0] t)) (w.heap.size + 1) sb xb nb cb ∧ Ob2 ((((w.alloc (.cells #[.bool sa, .slice xa na ca] t)).alloc (.cells #[.bool sb, .slice xb nb cb] t)).alloc (.cells #[.bool false, .slice none 0 0] t)).alloc (.cells #[.bool false, .slice none 0 0] t)) (w.heap.size + 1 + 1) ∧ Ob2 ((((w.alloc (.cells #[.bool sa, .slice xa na ca] t)).alloc (.cells #[.bool sb, .slice xb nb cb] t)).alloc (.cells #[.bool false, .slice none 0 0] t)).alloc (.cells #[.bool false, .slice none 0 0] t)) (w.heap.size + 1 + 1 + 1) ∧ Below w.heap.size w ((((w.alloc (.cells #[.bool sa, .slice xa na ca] t)).alloc (.cells #[.bool sb, .slice xb nb cb] t)).alloc (.cells #[.bool false, .slice none 0 0] t)).alloc (.cells #[.bool false, .slice none 0 0] t)) := by
  obtain ⟨h1, h2, h3, h4⟩ := zboxes (w := w) sa xa na ca sb xb nb cb t
  have h5 := ob2_new (((w.alloc (.cells #[.bool sa, .slice xa na ca] t)).alloc (.cells #[.bool sb, .slice xb nb cb] t)).alloc (.cells #[.bool false, .slice none 0 0] t)) t
  rw [size_alloc1, size_alloc1, size_alloc1] at h5
  exact ⟨h1.alloc _, h2.alloc _, h3.alloc _, h5, below_alloc h4 _⟩
theorem zInt1_c {w : World} : Calls Tryz.prog 96 #[.int .i64 1] w fun e w' => ∃ s x n c d, e = .returned (.agg #[.bool s, .slice x n c]) ∧ Below w.heap.size w w' ∧ Hid (n ≤ 2 ∧ Zn w' s x n d 1) := by
  refine (zInt_c 1 w (by decide) (by decide)).mono ?_
  rintro e w' ⟨s, x, n, c, d, rfl, h⟩
  have h0 := vd_nonneg h.dg
  have hv := h.val
  cases s
  · have hv' : vd d n = 1 := hv
    exact ⟨false, x, n, c, d, rfl, h.bel, h.le, ⟨h.rd, h.dg, h.fm, hv'⟩, rfl, h.sgn⟩
  · have hv' : - vd d n = 1 := hv
    omega
theorem zMulE_c {w : World} {sa : Bool} {xa : Option Addr} {na ca : Nat} {da : Nat → Int} {sb : Bool} {xb : Option Addr} {nb cb : Nat} {db : Nat → Int} {u v : Int} (ha : Zn w sa xa na da u) (hb : Zn w sb xb nb db v) (hn : na ≤ 131072) (hm : nb ≤ 131072) :
    Calls Tryz.prog 68 #[.agg #[.bool sa, .slice xa na ca], .agg #[.bool sb, .slice xb nb cb]] w fun e w' => ∃ s x n c d, e = .returned (.agg #[.bool s, .slice x n c]) ∧ Below w.heap.size w w' ∧ Hid (n ≤ na + nb ∧ Zn w' s x n d (u * v)) :=
  (zMul_c ha hb hn hm).mono (fun _ _ ⟨s, x, n, c, d, h1, h2, h3, h4⟩ => ⟨s, x, n, c, d, h1, h2, h3, h4⟩)

end Go.Proofs.YthofcgpghbaccaaGreat
namespace Go.Proofs.YthofcgpghbaccaaGreat
open Go.RowKit

/-- How two numbers lie to one another. -/
def ROrd (c : Int) (a b : Rat) : Prop := c = -1 ∧ a < b ∨ c = 0 ∧ a = b ∨ c = 1 ∧ b < a
theorem rord_of {c : Int} {a b : Rat} (h : Ord c (a.num * b.den) (b.num * a.den)) : ROrd c a b := by
  rcases h with ⟨h1, h2⟩ | ⟨h1, h2⟩ | ⟨h1, h2⟩
  · exact .inl ⟨h1, (Rat.lt_iff a b).2 h2⟩
  · refine .inr (.inl ⟨h1, Rat.le_antisymm ((Rat.le_iff a b).2 ?_) ((Rat.le_iff b a).2 ?_)⟩)
    · rw [h2]; exact Int.le_refl _
    · rw [h2]; exact Int.le_refl _
  · exact .inr (.inr ⟨h1, (Rat.lt_iff b a).2 h2⟩)
theorem prod_of {L : Nat} {w1 wx W5 w5 : World} {b4 : Nat} {r1 : Bool} {p1 : Option Addr} {k1 c1 n m : Nat} {q : Nat → Int} {v : Int} (hn : n ≤ L) (hm : m ≤ L) (hW : Below w1.heap.size w1 W5) (hD : WRes (n + m) W5 w5 r1 p1 k1 c1 q ∧ wv r1 q k1 = v) (hT : Turned w1.heap.size W5.heap.size w5 wx) (hb : Bx wx b4 r1 p1 k1 c1) : FlAt (2 * L) w1 wx b4 r1 p1 k1 c1 v := by
  have hQ := hD.1.res.turned hW hT
  have := hQ.le
  exact ⟨hb, hQ.bel, ⟨q, hQ.rd, hQ.lm, hD.1.wfB, hQ.ncap, hQ.nil', hD.2⟩, by omega⟩

end Go.Proofs.YthofcgpghbaccaaGreat
namespace Go.Proofs.YthofcgpghbaccaaGreat
open Go.RowKit

theorem rfrac {v : Int} {s : Bool} {D : Nat} (hv : v = sg s v.natAbs) (hD : 0 < D) :
    ((v : Rat) / ((D : Int) : Rat)).num = sg s (v.natAbs / v.natAbs.gcd D) ∧ ((v : Rat) / ((D : Int) : Rat)).den = D / v.natAbs.gcd D := by
  have hG : 0 < v.natAbs.gcd D := Nat.gcd_pos_of_pos_right _ hD
  have e1 : v.natAbs / v.natAbs.gcd D * v.natAbs.gcd D = v.natAbs := Nat.div_mul_cancel (Nat.gcd_dvd_left _ _)
  have e2 : D / v.natAbs.gcd D * v.natAbs.gcd D = D := Nat.div_mul_cancel (Nat.gcd_dvd_right _ _)
  have h := rmake (s := s) (t := false) (NA := v.natAbs / v.natAbs.gcd D) (NB := D / v.natAbs.gcd D) (G := v.natAbs.gcd D) (by rw [e2]; exact hD) (by rw [e1, e2])
  rw [e1, e2, ← hv] at h
  simpa [sg] using h
theorem radd_frac (a b : Rat) : a + b = ((a.num * b.den + b.num * a.den : Int) : Rat) / (((a.den * b.den : Nat) : Int) : Rat) := by
  have ha : (a.den : Int) ≠ 0 := by have := a.den_pos; omega
  have hb : (b.den : Int) ≠ 0 := by have := b.den_pos; omega
  have h := Rat.divInt_add_divInt a.num b.num ha hb
  rw [Rat.num_divInt_den, Rat.num_divInt_den] at h
  rw [h, Rat.divInt_eq_div]
  simp
theorem rmul_frac (a b : Rat) : a * b = ((a.num * b.num : Int) : Rat) / (((a.den * b.den : Nat) : Int) : Rat) := by
  have h := Rat.divInt_mul_divInt a.num b.num (d₁ := a.den) (d₂ := b.den)
  rw [Rat.num_divInt_den, Rat.num_divInt_den] at h
  rw [h, Rat.divInt_eq_div]
  simp
theorem sub_ord {c : Int} {a b : Rat} (h : Ord c (a - b).num 0) : ROrd c a b := by
  rcases h with ⟨h1, h2⟩ | ⟨h1, h2⟩ | ⟨h1, h2⟩
  · left; refine ⟨h1, ?_⟩
    have : a - b < 0 := (Rat.lt_iff _ _).2 (by simp; exact h2)
    grind
  · right; left; refine ⟨h1, ?_⟩
    have : a - b = 0 := Rat.num_eq_zero.1 h2
    grind
  · right; right; refine ⟨h1, ?_⟩
    have : 0 < a - b := (Rat.lt_iff _ _).2 (by simp; exact h2)
    grind
theorem qbox2 {w : World} (a0 a1 a2 b0 b1 b2 : Value) (t : TypeId) :
    Bx3 (((w.alloc (.cells #[a0, a1, a2] t)).alloc (.cells #[b0, b1, b2] t)).alloc (.cells #[.bool false, .slice none 0 0, .slice none 0 0] t)) w.heap.size a0 a1 a2 ∧ Bx3 (((w.alloc (.cells #[a0, a1, a2] t)).alloc (.cells #[b0, b1, b2] t)).alloc (.cells #[.bool false, .slice none 0 0, .slice none 0 0] t)) (w.heap.size + 1) b0 b1 b2 ∧ Ob (((w.alloc (.cells #[a0, a1, a2] t)).alloc (.cells #[b0, b1, b2] t)).alloc (.cells #[.bool false, .slice none 0 0, .slice none 0 0] t)) (w.heap.size + 1 + 1) ∧ Below w.heap.size w (((w.alloc (.cells #[a0, a1, a2] t)).alloc (.cells #[b0, b1, b2] t)).alloc (.cells #[.bool false, .slice none 0 0, .slice none 0 0] t)) := by
  have h1 := bx3_at w a0 a1 a2 t
  have h2 := bx3_at (w.alloc (.cells #[a0, a1, a2] t)) b0 b1 b2 t
  rw [size_alloc1] at h2
  have h3 := ob_new ((w.alloc (.cells #[a0, a1, a2] t)).alloc (.cells #[b0, b1, b2] t)) t
  rw [size_alloc1, size_alloc1] at h3
  exact ⟨(h1.alloc _).alloc _, h2.alloc _, h3, below_alloc (below_alloc (below_alloc (Below.refl w.heap.size w) _) _) _⟩
theorem mkZn_c {w : World} {z : Option Addr} {k c : Nat} {d : Nat → Int} {V : Nat} (h : Dn w z k d V) (hk : k ≤ 1048576) :
    Calls Tryz.prog 69 #[.bool false, .slice z k c] w fun e w' => ∃ r, e = .returned (.agg #[.bool r, .slice z k c]) ∧ Below w.heap.size w w' ∧ Hid (Zn w' r z k d (V : Int)) :=
  (mkZ_c hk).mono (fun _ _ ⟨r, h1, h2, h3⟩ => ⟨r, h1, h2, Zn.of (s := false) (h.below h2) h3⟩)
/-- Mk, on a whole number over one above 0. -/
theorem mkQn_c {w : World} {s : Bool} {x : Option Addr} {n c : Nat} {d : Nat → Int} {v : Int} {y : Option Addr} {m e : Nat} {g : Nat → Int} {D : Nat} (ha : Zn w s x n d v) (hb : Dn w y m g D) (hn : n ≤ 131072) (hm : m ≤ 131072) (hD : 0 < D) :
    Calls Tryz.prog 66 #[.agg #[.bool s, .slice x n c], .slice y m e] w fun en w' => ∃ s' x' n' c1 d' y' m' c2 g', en = .returned (.agg #[.bool s', .slice x' n' c1, .slice y' m' c2]) ∧ Below w.heap.size w w' ∧ Hid (n' ≤ n + 2 ∧ m' ≤ m + 2 ∧ Qn w' s' x' n' d' y' m' g' ((v : Rat) / ((D : Int) : Rat))) := by
  refine (mkQ_c ha.dn hb ha.pos hn hm hD).mono ?_
  rintro en w' ⟨r, z, k, c', d', z2, k2, c2, d2, rfl, h2, h3, h4, h5, h6, h7⟩
  obtain ⟨e1, e2⟩ := rfrac ha.sgn hD
  have hz := Zn.of h6 h5
  rw [← e1] at hz
  rw [← e2] at h7
  exact ⟨r, z, k, c', d', z2, k2, c2, d2, rfl, h2, h3, h4, hz, h7⟩

set_option maxRecDepth 100000 in
set_option maxHeartbeats 16000000 in
theorem qAdd_c {w : World} {sa : Bool} {xa : Option Addr} {na ca : Nat} {da : Nat → Int} {ya : Option Addr} {ma ea : Nat} {ga : Nat → Int} {qa : Rat} {sb : Bool} {xb : Option Addr} {nb cb : Nat} {db : Nat → Int} {yb : Option Addr} {mb eb : Nat} {gb : Nat → Int} {qb : Rat} (ha : Qn w sa xa na da ya ma ga qa) (hb : Qn w sb xb nb db yb mb gb qb) (hna : na ≤ 32000) (hma : ma ≤ 32000) (hnb : nb ≤ 32000) (hmb : mb ≤ 32000) :
    Calls Tryz.prog 33 #[.agg #[.bool sa, .slice xa na ca, .slice ya ma ea], .agg #[.bool sb, .slice xb nb cb, .slice yb mb eb]] w fun e w' => QAns (na + ma + nb + mb + 3) w w' e (qa + qb) := by
  obtain ⟨h1, h2, h3, h4⟩ := qbox2 (w := w) (.bool sa) (.slice xa na ca) (.slice ya ma ea) (.bool sb) (.slice xb nb cb) (.slice yb mb eb) 63
  have h5 := ((ha.alloc (.cells #[.bool sa, .slice xa na ca, .slice ya ma ea] 63)).alloc (.cells #[.bool sb, .slice xb nb cb, .slice yb mb eb] 63)).alloc (.cells #[.bool false, .slice none 0 0, .slice none 0 0] 63)
  have h6 := ((hb.alloc (.cells #[.bool sa, .slice xa na ca, .slice ya ma ea] 63)).alloc (.cells #[.bool sb, .slice xb nb cb, .slice yb mb eb] 63)).alloc (.cells #[.bool false, .slice none 0 0, .slice none 0 0] 63)
  clear ha hb
  go_enter Tryz.func33, Tryz.ntmps33
  go_wp2_with fail
  generalize ((w.alloc (.cells #[.bool sa, .slice xa na ca, .slice ya ma ea] 63)).alloc (.cells #[.bool sb, .slice xb nb cb, .slice yb mb eb] 63)).alloc (.cells #[.bool false, .slice none 0 0, .slice none 0 0] 63) = w1 at *
  have HA := hid h5; have HB := hid h6; have OB := hid h3; have HW := hid h4
  obtain ⟨za, a0, a1, a2⟩ := h1
  obtain ⟨zb, b0, b1, b2⟩ := h2
  obtain ⟨hz, z0, z1, z2, zf⟩ := h3
  clear h4 h5 h6
  have HD := hid (show 0 < qa.den * qb.den from Nat.mul_pos qa.den_pos qb.den_pos)
  have C1 : Hid (∀ W, Below w1.heap.size w1 W → Calls Tryz.prog 69 #[.bool false, .slice yb mb eb] W fun e w' => ∃ r, e = .returned (.agg #[.bool r, .slice yb mb eb]) ∧ Below W.heap.size W w' ∧ Hid (Zn w' r yb mb gb (qb.den : Int))) := fun W hW => mkZn_c (HB.out.den.below hW) (by omega)
  have C2 : Hid (∀ (W : World) (r : Bool), Below w1.heap.size w1 W → Zn W r yb mb gb (qb.den : Int) → Calls Tryz.prog 68 #[.agg #[.bool sa, .slice xa na ca], .agg #[.bool r, .slice yb mb eb]] W fun e w' => ∃ s x n c d, e = .returned (.agg #[.bool s, .slice x n c]) ∧ Below W.heap.size W w' ∧ Hid (n ≤ na + mb ∧ Zn w' s x n d (qa.num * qb.den))) := fun W r hW h => zMulE_c (HA.out.num.below hW) h (by omega) (by omega)
  have C3 : Hid (∀ W, Below w1.heap.size w1 W → Calls Tryz.prog 69 #[.bool false, .slice ya ma ea] W fun e w' => ∃ r, e = .returned (.agg #[.bool r, .slice ya ma ea]) ∧ Below W.heap.size W w' ∧ Hid (Zn w' r ya ma ga (qa.den : Int))) := fun W hW => mkZn_c (HA.out.den.below hW) (by omega)
  have C4 : Hid (∀ (W : World) (r : Bool), Below w1.heap.size w1 W → Zn W r ya ma ga (qa.den : Int) → Calls Tryz.prog 68 #[.agg #[.bool sb, .slice xb nb cb], .agg #[.bool r, .slice ya ma ea]] W fun e w' => ∃ s x n c d, e = .returned (.agg #[.bool s, .slice x n c]) ∧ Below W.heap.size W w' ∧ Hid (n ≤ nb + ma ∧ Zn w' s x n d (qb.num * qa.den))) := fun W r hW h => zMulE_c (HB.out.num.below hW) h (by omega) (by omega)
  have C5 : Hid (∀ (W : World) (s5 : Bool) (x5 : Option Addr) (n5 c5 : Nat) (d5 : Nat → Int) (s6 : Bool) (x6 : Option Addr) (n6 c6 : Nat) (d6 : Nat → Int), n5 ≤ na + mb → n6 ≤ nb + ma → Zn W s5 x5 n5 d5 (qa.num * qb.den) → Zn W s6 x6 n6 d6 (qb.num * qa.den) → Calls Tryz.prog 67 #[.agg #[.bool s5, .slice x5 n5 c5], .agg #[.bool s6, .slice x6 n6 c6]] W fun e w' => ∃ s x n c d, e = .returned (.agg #[.bool s, .slice x n c]) ∧ Below W.heap.size W w' ∧ Hid (n ≤ na + ma + nb + mb + 1 ∧ Zn w' s x n d (qa.num * qb.den + qb.num * qa.den))) := fun W s5 x5 n5 c5 d5 s6 x6 n6 c6 d6 h1 h2 h3 h4 => (zAdd_c h3 h4 (by omega) (by omega)).mono (fun _ _ ⟨s, x, n, c, d, h1, h2, h3, h4⟩ => ⟨s, x, n, c, d, h1, h2, by omega, h4⟩)
  have C6 : Hid (∀ W, Below w1.heap.size w1 W → Calls Tryz.prog 70 #[.slice ya ma ea, .slice yb mb eb] W fun e w' => ∃ z k c' q, e = .returned (.slice z k c') ∧ Below W.heap.size W w' ∧ Hid (k ≤ ma + mb ∧ Dn w' z k q (qa.den * qb.den))) := fun W hW => dMul_c (HA.out.den.below hW) (HB.out.den.below hW) (by omega) (by omega)
  have C7 : Hid (∀ (W : World) (s : Bool) (x : Option Addr) (n c : Nat) (d : Nat → Int) (y : Option Addr) (m e : Nat) (g : Nat → Int), n ≤ na + ma + nb + mb + 1 → m ≤ ma + mb → Zn W s x n d (qa.num * qb.den + qb.num * qa.den) → Dn W y m g (qa.den * qb.den) → Calls Tryz.prog 66 #[.agg #[.bool s, .slice x n c], .slice y m e] W fun en w' => ∃ s' x' n' c1 d' y' m' c2 g', en = .returned (.agg #[.bool s', .slice x' n' c1, .slice y' m' c2]) ∧ Below W.heap.size W w' ∧ Hid (n' ≤ na + ma + nb + mb + 3 ∧ m' ≤ na + ma + nb + mb + 3 ∧ Qn w' s' x' n' d' y' m' g' (qa + qb))) := fun W s x n c d y m e g h1 h2 h3 h4 => (mkQn_c h3 h4 (by omega) (by omega) HD.out).mono (fun _ _ ⟨s', x', n', c1, d', y', m', c2, g', k1, k2, k3, k4, k5⟩ => ⟨s', x', n', c1, d', y', m', c2, g', k1, k2, by omega, by omega, by rw [radd_frac]; exact k5⟩)
  go_region_held3 (fun w' => w'.cell? ⟨w.heap.size, 0, none⟩ = some (.bool sa) ∧ w'.cell? ⟨w.heap.size, 1, none⟩ = some (.slice xa na ca) ∧ w'.cell? ⟨w.heap.size, 2, none⟩ = some (.slice ya ma ea) ∧ w'.cell? ⟨w.heap.size + 1, 0, none⟩ = some (.bool sb) ∧ w'.cell? ⟨w.heap.size + 1, 1, none⟩ = some (.slice xb nb cb) ∧ w'.cell? ⟨w.heap.size + 1, 2, none⟩ = some (.slice yb mb eb) ∧ (w'.cell? ⟨w.heap.size + 1 + 1, 0, none⟩).isSome = true ∧ (w'.cell? ⟨w.heap.size + 1 + 1, 1, none⟩).isSome = true ∧ (w'.cell? ⟨w.heap.size + 1 + 1, 2, none⟩).isSome = true ∧ w'.frozen? ⟨w.heap.size + 1 + 1, 0, none⟩ = false ∧ w'.frozen? ⟨w.heap.size + 1 + 1, 1, none⟩ = false ∧ w'.frozen? ⟨w.heap.size + 1 + 1, 2, none⟩ = false)
    (refine ⟨?_, ?_, ?_, ?_, ?_, ?_, ?_, ?_, ?_, ?_, ?_, ?_⟩ <;> repeat (with_reducible first | assumption | exact zf _ | exact tf _ | exact uf _ | exact vf _ | exact rf _ | exact of _ | exact kf _ | exact pf _ | exact kI0 z0 | exact kI0 z1 | exact kI0 z2 | exact kI0 t0 | exact kI0 t1 | exact kI0 t2 | exact kI0 u0 | exact kI0 u1 | exact kI0 u2 | exact kI0 v0 | exact kI0 v1 | exact kI0 v2 | exact kI0 r0 | exact kI0 r1 | exact kI0 r2 | exact kI0 o0 | exact kI0 o1 | exact kI0 o2 | exact kI0 k0 | exact kI0 k1 | exact kI0 k2 | exact kI0 p0 | exact kI0 p1 | exact kI0 p2 | refine kCd ?_ | refine kId ?_ | refine kFd ?_ | refine kCs (by simp only [ne_eq]; omega) ?_ | refine kIs ?_ | refine kFs ?_ | refine kCb (by assumption) ?_ | refine kIb (by assumption) ?_))
    (first
      | (go_at_call 69; with_reducible refine (C1.out _ (by repeat (with_reducible first | assumption | exact Below.refl _ _ | refine Below.drew ?_ | refine kBb (by assumption) ?_))).mono ?_; rintro e v1 ⟨r1, rfl, hv1, H1⟩; have Tt : Ob v1 (w.heap.size + 1 + 1) := (by repeat (with_reducible first | exact OB.out | exact Tt | exact Tu | exact Tv | exact Tr | exact To | exact Tk | exact Tp | refine Ob.drew ?_ | refine kOb (by assumption) ?_)); obtain ⟨_, t0, t1, t2, tf⟩ := id Tt)
      | (go_at_call 68; with_reducible refine (C2.out _ r1 (by repeat (with_reducible first | assumption | exact Below.refl _ _ | refine Below.drew ?_ | refine kBb (by assumption) ?_)) (by repeat (with_reducible first | exact H1.out | refine kZd ?_ | refine kZb (by assumption) ?_))).mono ?_; rintro e v2 ⟨s2, x2, n2, c2, d2, rfl, hv2, H2⟩; have Tu : Ob v2 (w.heap.size + 1 + 1) := (by repeat (with_reducible first | exact OB.out | exact Tt | exact Tu | exact Tv | exact Tr | exact To | exact Tk | exact Tp | refine Ob.drew ?_ | refine kOb (by assumption) ?_)); obtain ⟨_, u0, u1, u2, uf⟩ := id Tu)
      | (go_at_call 69; with_reducible refine (C3.out _ (by repeat (with_reducible first | assumption | exact Below.refl _ _ | refine Below.drew ?_ | refine kBb (by assumption) ?_))).mono ?_; rintro e v3 ⟨r3, rfl, hv3, H3⟩; have Tv : Ob v3 (w.heap.size + 1 + 1) := (by repeat (with_reducible first | exact OB.out | exact Tt | exact Tu | exact Tv | exact Tr | exact To | exact Tk | exact Tp | refine Ob.drew ?_ | refine kOb (by assumption) ?_)); obtain ⟨_, v0, v1, v2, vf⟩ := id Tv)
      | (go_at_call 68; with_reducible refine (C4.out _ r3 (by repeat (with_reducible first | assumption | exact Below.refl _ _ | refine Below.drew ?_ | refine kBb (by assumption) ?_)) (by repeat (with_reducible first | exact H3.out | refine kZd ?_ | refine kZb (by assumption) ?_))).mono ?_; rintro e v4 ⟨s4, x4, n4, c4, d4, rfl, hv4, H4⟩; have Tr : Ob v4 (w.heap.size + 1 + 1) := (by repeat (with_reducible first | exact OB.out | exact Tt | exact Tu | exact Tv | exact Tr | exact To | exact Tk | exact Tp | refine Ob.drew ?_ | refine kOb (by assumption) ?_)); obtain ⟨_, r0, r1, r2, rf⟩ := id Tr)
      | (go_at_call 67; with_reducible refine (C5.out _ s2 x2 n2 c2 d2 s4 x4 n4 c4 d4 H2.out.1 H4.out.1 (by repeat (with_reducible first | exact H2.out.2 | refine kZd ?_ | refine kZb (by assumption) ?_)) (by repeat (with_reducible first | exact H4.out.2 | refine kZd ?_ | refine kZb (by assumption) ?_))).mono ?_; rintro e v5 ⟨s5, x5, n5, c5, d5, rfl, hv5, H5⟩; have To : Ob v5 (w.heap.size + 1 + 1) := (by repeat (with_reducible first | exact OB.out | exact Tt | exact Tu | exact Tv | exact Tr | exact To | exact Tk | exact Tp | refine Ob.drew ?_ | refine kOb (by assumption) ?_)); obtain ⟨_, o0, o1, o2, of⟩ := id To)
      | (go_at_call 70; with_reducible refine (C6.out _ (by repeat (with_reducible first | assumption | exact Below.refl _ _ | refine Below.drew ?_ | refine kBb (by assumption) ?_))).mono ?_; rintro e v6 ⟨z6, k6, c6, d6, rfl, hv6, H6⟩; have Tk : Ob v6 (w.heap.size + 1 + 1) := (by repeat (with_reducible first | exact OB.out | exact Tt | exact Tu | exact Tv | exact Tr | exact To | exact Tk | exact Tp | refine Ob.drew ?_ | refine kOb (by assumption) ?_)); obtain ⟨_, k0, k1, k2, kf⟩ := id Tk)
      | (go_at_call 66; with_reducible refine (C7.out _ s5 x5 n5 c5 d5 z6 k6 c6 d6 H5.out.1 H6.out.1 (by repeat (with_reducible first | exact H5.out.2 | refine kZd ?_ | refine kZb (by assumption) ?_)) (by repeat (with_reducible first | exact H6.out.2 | refine Dn.drew ?_ | refine kDb (by assumption) ?_))).mono ?_; rintro e v8 ⟨s8, x8, n8, c8, d8, y8, m8, e8, g8, rfl, hv8, H8⟩; have Tp : Ob v8 (w.heap.size + 1 + 1) := (by repeat (with_reducible first | exact OB.out | exact Tt | exact Tu | exact Tv | exact Tr | exact To | exact Tk | exact Tp | refine Ob.drew ?_ | refine kOb (by assumption) ?_)); obtain ⟨_, p0, p1, p2, pf⟩ := id Tp))
  all_goals
    have hb : Below w1.heap.size w1 v8 := (by repeat (with_reducible first | assumption | exact Below.refl _ _ | refine Below.drew ?_ | refine kBb (by assumption) ?_))
    go_wp2
    exact bodyPost_ret (v := .agg #[.bool s8, .slice x8 n8 c8, .slice y8 m8 e8]) (by simp [results, Tryz.results33, go_sem, p0, p1, p2]) rfl ⟨s8, x8, n8, c8, d8, y8, m8, e8, g8, rfl, below_st (HW.out.trans (hb.mono HW.out.size)) (by omega), H8.out.1, H8.out.2.1, Tp.qn H8.out.2.2⟩

end Go.Proofs.YthofcgpghbaccaaGreat
namespace Go.Proofs.YthofcgpghbaccaaGreat
open Go.RowKit

/-- What Sign answers. -/
def SG (c er : Int) (p : Bool) (v : Int) : Prop := p = true ∧ er = 0 ∧ Ord c v 0 ∨ p = false ∧ er = 3 ∧ c = 0
theorem rf_wf {s f n g m} (h : rfB s f n g m = true) : wfB s f n = true := by
  simp only [rfB, Bool.and_eq_true] at h
  exact h.1

end Go.Proofs.YthofcgpghbaccaaGreat
namespace Go.Proofs.YthofcgpghbaccaaGreat
open Go.RowKit

theorem rquo_frac {a b : Rat} {s t : Bool} (ha : a.num = sg s a.num.natAbs) (hb : b.num = sg t b.num.natAbs) (h0 : 0 < b.num.natAbs) : a / b = ((sg (!(s == t)) (a.num.natAbs * b.den) : Int) : Rat) / (((a.den * b.num.natAbs : Nat) : Int) : Rat) := by
  obtain ⟨e1, e2⟩ := rinv hb h0
  rw [Rat.div_def, rmul_frac, e1, e2]
  have e3 : a.num * sg t b.den = sg (s != t) (a.num.natAbs * b.den) := by
    have := sg_mul s t a.num.natAbs b.den
    rw [← ha] at this; exact this
  rw [e3]
  have e4 : (s != t) = !(s == t) := by cases s <;> cases t <;> rfl
  rw [e4]

set_option maxRecDepth 100000 in
set_option maxHeartbeats 16000000 in
theorem qMul_c {w : World} {sa : Bool} {xa : Option Addr} {na ca : Nat} {da : Nat → Int} {ya : Option Addr} {ma ea : Nat} {ga : Nat → Int} {qa : Rat} {sb : Bool} {xb : Option Addr} {nb cb : Nat} {db : Nat → Int} {yb : Option Addr} {mb eb : Nat} {gb : Nat → Int} {qb : Rat} (ha : Qn w sa xa na da ya ma ga qa) (hb : Qn w sb xb nb db yb mb gb qb) (hna : na ≤ 32000) (hma : ma ≤ 32000) (hnb : nb ≤ 32000) (hmb : mb ≤ 32000) :
    Calls Tryz.prog 35 #[.agg #[.bool sa, .slice xa na ca, .slice ya ma ea], .agg #[.bool sb, .slice xb nb cb, .slice yb mb eb]] w fun e w' => QAns (na + ma + nb + mb + 3) w w' e (qa * qb) := by
  obtain ⟨h1, h2, h3, h4⟩ := qbox2 (w := w) (.bool sa) (.slice xa na ca) (.slice ya ma ea) (.bool sb) (.slice xb nb cb) (.slice yb mb eb) 63
  have h5 := ((ha.alloc (.cells #[.bool sa, .slice xa na ca, .slice ya ma ea] 63)).alloc (.cells #[.bool sb, .slice xb nb cb, .slice yb mb eb] 63)).alloc (.cells #[.bool false, .slice none 0 0, .slice none 0 0] 63)
  have h6 := ((hb.alloc (.cells #[.bool sa, .slice xa na ca, .slice ya ma ea] 63)).alloc (.cells #[.bool sb, .slice xb nb cb, .slice yb mb eb] 63)).alloc (.cells #[.bool false, .slice none 0 0, .slice none 0 0] 63)
  clear ha hb
  go_enter Tryz.func35, Tryz.ntmps35
  go_wp2_with fail
  generalize ((w.alloc (.cells #[.bool sa, .slice xa na ca, .slice ya ma ea] 63)).alloc (.cells #[.bool sb, .slice xb nb cb, .slice yb mb eb] 63)).alloc (.cells #[.bool false, .slice none 0 0, .slice none 0 0] 63) = w1 at *
  have HA := hid h5; have HB := hid h6; have OB := hid h3; have HW := hid h4
  obtain ⟨za, a0, a1, a2⟩ := h1
  obtain ⟨zb, b0, b1, b2⟩ := h2
  obtain ⟨hz, z0, z1, z2, zf⟩ := h3
  clear h4 h5 h6
  have HD := hid (show 0 < qa.den * qb.den from Nat.mul_pos qa.den_pos qb.den_pos)
  have C2 : Hid (∀ (W : World), Below w1.heap.size w1 W → Calls Tryz.prog 68 #[.agg #[.bool sa, .slice xa na ca], .agg #[.bool sb, .slice xb nb cb]] W fun e w' => ∃ s x n c d, e = .returned (.agg #[.bool s, .slice x n c]) ∧ Below W.heap.size W w' ∧ Hid (n ≤ na + nb ∧ Zn w' s x n d (qa.num * qb.num))) := fun W hW => zMulE_c (HA.out.num.below hW) (HB.out.num.below hW) (by omega) (by omega)
  have C6 : Hid (∀ W, Below w1.heap.size w1 W → Calls Tryz.prog 70 #[.slice ya ma ea, .slice yb mb eb] W fun e w' => ∃ z k c' q, e = .returned (.slice z k c') ∧ Below W.heap.size W w' ∧ Hid (k ≤ ma + mb ∧ Dn w' z k q (qa.den * qb.den))) := fun W hW => dMul_c (HA.out.den.below hW) (HB.out.den.below hW) (by omega) (by omega)
  have C7 : Hid (∀ (W : World) (s : Bool) (x : Option Addr) (n c : Nat) (d : Nat → Int) (y : Option Addr) (m e : Nat) (g : Nat → Int), n ≤ na + nb → m ≤ ma + mb → Zn W s x n d (qa.num * qb.num) → Dn W y m g (qa.den * qb.den) → Calls Tryz.prog 66 #[.agg #[.bool s, .slice x n c], .slice y m e] W fun en w' => ∃ s' x' n' c1 d' y' m' c2 g', en = .returned (.agg #[.bool s', .slice x' n' c1, .slice y' m' c2]) ∧ Below W.heap.size W w' ∧ Hid (n' ≤ na + ma + nb + mb + 3 ∧ m' ≤ na + ma + nb + mb + 3 ∧ Qn w' s' x' n' d' y' m' g' (qa * qb))) := fun W s x n c d y m e g h1 h2 h3 h4 => (mkQn_c h3 h4 (by omega) (by omega) HD.out).mono (fun _ _ ⟨s', x', n', c1, d', y', m', c2, g', k1, k2, k3, k4, k5⟩ => ⟨s', x', n', c1, d', y', m', c2, g', k1, k2, by omega, by omega, by rw [rmul_frac]; exact k5⟩)
  go_region_held3 (fun w' => w'.cell? ⟨w.heap.size, 0, none⟩ = some (.bool sa) ∧ w'.cell? ⟨w.heap.size, 1, none⟩ = some (.slice xa na ca) ∧ w'.cell? ⟨w.heap.size, 2, none⟩ = some (.slice ya ma ea) ∧ w'.cell? ⟨w.heap.size + 1, 0, none⟩ = some (.bool sb) ∧ w'.cell? ⟨w.heap.size + 1, 1, none⟩ = some (.slice xb nb cb) ∧ w'.cell? ⟨w.heap.size + 1, 2, none⟩ = some (.slice yb mb eb) ∧ (w'.cell? ⟨w.heap.size + 1 + 1, 0, none⟩).isSome = true ∧ (w'.cell? ⟨w.heap.size + 1 + 1, 1, none⟩).isSome = true ∧ (w'.cell? ⟨w.heap.size + 1 + 1, 2, none⟩).isSome = true ∧ w'.frozen? ⟨w.heap.size + 1 + 1, 0, none⟩ = false ∧ w'.frozen? ⟨w.heap.size + 1 + 1, 1, none⟩ = false ∧ w'.frozen? ⟨w.heap.size + 1 + 1, 2, none⟩ = false)
    (refine ⟨?_, ?_, ?_, ?_, ?_, ?_, ?_, ?_, ?_, ?_, ?_, ?_⟩ <;> repeat (with_reducible first | assumption | exact zf _ | exact uf _ | exact kf _ | exact pf _ | exact kI0 z0 | exact kI0 z1 | exact kI0 z2 | exact kI0 u0 | exact kI0 u1 | exact kI0 u2 | exact kI0 k0 | exact kI0 k1 | exact kI0 k2 | exact kI0 p0 | exact kI0 p1 | exact kI0 p2 | refine kCd ?_ | refine kId ?_ | refine kFd ?_ | refine kCs (by simp only [ne_eq]; omega) ?_ | refine kIs ?_ | refine kFs ?_ | refine kCb (by assumption) ?_ | refine kIb (by assumption) ?_))
    (first
      | (go_at_call 68; with_reducible refine (C2.out _ (by repeat (with_reducible first | assumption | exact Below.refl _ _ | refine Below.drew ?_ | refine kBb (by assumption) ?_))).mono ?_; rintro e v2 ⟨s2, x2, n2, c2, d2, rfl, hv2, H2⟩; have Tu : Ob v2 (w.heap.size + 1 + 1) := (by repeat (with_reducible first | exact OB.out | exact Tt | exact Tu | exact Tk | exact Tp | refine Ob.drew ?_ | refine kOb (by assumption) ?_)); obtain ⟨_, u0, u1, u2, uf⟩ := id Tu)
      | (go_at_call 70; with_reducible refine (C6.out _ (by repeat (with_reducible first | assumption | exact Below.refl _ _ | refine Below.drew ?_ | refine kBb (by assumption) ?_))).mono ?_; rintro e v6 ⟨z6, k6, c6, d6, rfl, hv6, H6⟩; have Tk : Ob v6 (w.heap.size + 1 + 1) := (by repeat (with_reducible first | exact OB.out | exact Tt | exact Tu | exact Tk | exact Tp | refine Ob.drew ?_ | refine kOb (by assumption) ?_)); obtain ⟨_, k0, k1, k2, kf⟩ := id Tk)
      | (go_at_call 66; with_reducible refine (C7.out _ s2 x2 n2 c2 d2 z6 k6 c6 d6 H2.out.1 H6.out.1 (by repeat (with_reducible first | exact H2.out.2 | refine kZd ?_ | refine kZb (by assumption) ?_)) (by repeat (with_reducible first | exact H6.out.2 | refine Dn.drew ?_ | refine kDb (by assumption) ?_))).mono ?_; rintro e v8 ⟨s8, x8, n8, c8, d8, y8, m8, e8, g8, rfl, hv8, H8⟩; have Tp : Ob v8 (w.heap.size + 1 + 1) := (by repeat (with_reducible first | exact OB.out | exact Tt | exact Tu | exact Tk | exact Tp | refine Ob.drew ?_ | refine kOb (by assumption) ?_)); obtain ⟨_, p0, p1, p2, pf⟩ := id Tp))
  all_goals
    have hb : Below w1.heap.size w1 v8 := (by repeat (with_reducible first | assumption | exact Below.refl _ _ | refine Below.drew ?_ | refine kBb (by assumption) ?_))
    go_wp2
    exact bodyPost_ret (v := .agg #[.bool s8, .slice x8 n8 c8, .slice y8 m8 e8]) (by simp [results, Tryz.results35, go_sem, p0, p1, p2]) rfl ⟨s8, x8, n8, c8, d8, y8, m8, e8, g8, rfl, below_st (HW.out.trans (hb.mono HW.out.size)) (by omega), H8.out.1, H8.out.2.1, Tp.qn H8.out.2.2⟩

/-- To, on a rational number of the reference. -/
theorem qToR_c {w : World} {s : Bool} {x : Option Addr} {n c : Nat} {d : Nat → Int} {y : Option Addr} {m e : Nat} {g : Nat → Int} {q : Rat} (h : Qn w s x n d y m g q) (hn : n ≤ 131072) (hm : m ≤ 131072) :
    Calls Tryz.prog 36 #[.agg #[.bool s, .slice x n c, .slice y m e]] w fun en w' => ∃ z k c' f z2 k2 c2 f2, en = .returned (.agg #[.bool s, .slice z k c', .slice z2 k2 c2]) ∧ Below w.heap.size w w' ∧ Hid (Rn (n + m) w' s z k c' f z2 k2 c2 f2 q) := by
  refine (qTo_c h.num.dn h.den hn hm).mono ?_
  rintro en w' ⟨z, k, c', f, z2, k2, c2, f2, rfl, h2, h3, h4, h5, h6, _, _⟩
  refine ⟨z, k, c', f, z2, k2, c2, f2, rfl, h2, ⟨h5.rd, h5.lm, (wfB_iff _ _ _).2 ⟨fm_of_wfB h5.wf, fun hs => ?_⟩, h5.cap, h5.nil, ?_⟩, h6, by omega, by omega⟩
  · have h0 := h.num.dn.pos' (h.num.pos hs)
    rcases Nat.eq_zero_or_pos k with hk | hk
    · subst hk
      have hv := h5.val
      rw [wv_false] at hv
      have : (0 : Int) = q.num.natAbs := hv
      omega
    · exact hk
  · have hv := h5.val
    rw [wv_false] at hv
    have hs := h.num.sgn
    cases s
    · rw [wv_false, hv]; exact hs.symm
    · rw [wv_true, hv]; exact hs.symm
end Go.Proofs.YthofcgpghbaccaaGreat
namespace Go.Proofs.YthofcgpghbaccaaGreat
open Go.RowKit

set_option maxRecDepth 100000 in
set_option maxHeartbeats 4000000 in
theorem rAddErr_c {w : World} {sa : Bool} {xa : Option Addr} {na ca : Nat} {fa : Nat → Int} {ya : Option Addr} {ma ea : Nat} {ga : Nat → Int} {sb : Bool} {xb : Option Addr} {nb cb : Nat} {fb : Nat → Int} {yb : Option Addr} {mb eb : Nat} {gb : Nat → Int} (ha : Rw w xa na ca fa ya ma ea ga) (hb : Rw w xb nb cb fb yb mb eb gb) (hna : na ≤ 1000) (hma : ma ≤ 1000) (hnb : nb ≤ 1000) (hmb : mb ≤ 1000) (hp : (rfB sa fa na ga ma && rfB sb fb nb gb mb) = false) :
    Calls Tryz.prog 85 #[.agg #[.bool sa, .slice xa na ca, .slice ya ma ea], .agg #[.bool sb, .slice xb nb cb, .slice yb mb eb]] w fun en w' => en = .returned (.tuple #[.agg #[.bool false, .slice none 0 0, .slice none 0 0], .int .i64 3]) ∧ Below w.heap.size w w' := by
  obtain ⟨h1, h2, h3, h4⟩ := qbox2 (w := w) (.bool sa) (.slice xa na ca) (.slice ya ma ea) (.bool sb) (.slice xb nb cb) (.slice yb mb eb) 25
  have h5 := ha.below h4
  have h6 := hb.below h4
  clear ha hb
  go_enter Tryz.func85, Tryz.ntmps85
  go_wp2_with fail
  generalize ((w.alloc (.cells #[.bool sa, .slice xa na ca, .slice ya ma ea] 25)).alloc (.cells #[.bool sb, .slice xb nb cb, .slice yb mb eb] 25)).alloc (.cells #[.bool false, .slice none 0 0, .slice none 0 0] 25) = w1 at *
  have HRA := hid h5; have HRB := hid h6; have HW := hid h4; have BA := hid h1; have BB := hid h2; have OB := hid h3
  clear h1 h2 h3 h4 h5 h6
  have c1 := rForm_c (s := sa) HRA.out (by omega) (by omega)
  cases h1 : rfB sa fa na ga ma
  · rw [h1] at c1
    refine c1.mono ?_
    rintro en w2 ⟨rfl, hb⟩
    have HB := hid (HW.out.trans (hb.mono HW.out.size))
    obtain ⟨hz, z0, z1, z2, zf⟩ := OB.out.below hb
    clear c1 hb hp
    go_wp2
    exact bodyPost_ret (v := .tuple #[.agg #[.bool false, .slice none 0 0, .slice none 0 0], .int .i64 3]) (by simp [results, Tryz.results85, go_sem, z0, z1, z2]) rfl ⟨rfl, below_st HB.out (by omega)⟩
  rw [h1] at c1
  refine c1.mono ?_
  rintro en w2 ⟨rfl, hb⟩
  have h2 : rfB sb fb nb gb mb = false := by rw [h1] at hp; simpa using hp
  have HB2 := hid hb
  clear c1 hb hp h1
  obtain ⟨zb, b0, b1, b2⟩ := BB.out.below HB2.out
  have c2 := rForm_c (s := sb) (HRB.out.below HB2.out) (by omega) (by omega)
  rw [h2] at c2
  go_wp2_with fail
  refine c2.mono ?_
  rintro en w3 ⟨rfl, hb⟩
  have HB3 := hid (HB2.out.trans (hb.mono HB2.out.size))
  have HB := hid (HW.out.trans (HB3.out.mono HW.out.size))
  obtain ⟨hz, z0, z1, z2, zf⟩ := OB.out.below HB3.out
  clear c2 hb h2 zb b0 b1 b2
  go_wp2
  exact bodyPost_ret (v := .tuple #[.agg #[.bool false, .slice none 0 0, .slice none 0 0], .int .i64 3]) (by simp [results, Tryz.results85, go_sem, z0, z1, z2]) rfl ⟨rfl, below_st HB.out (by omega)⟩

set_option maxRecDepth 100000 in
set_option maxHeartbeats 4000000 in
theorem rMulErr_c {w : World} {sa : Bool} {xa : Option Addr} {na ca : Nat} {fa : Nat → Int} {ya : Option Addr} {ma ea : Nat} {ga : Nat → Int} {sb : Bool} {xb : Option Addr} {nb cb : Nat} {fb : Nat → Int} {yb : Option Addr} {mb eb : Nat} {gb : Nat → Int} (ha : Rw w xa na ca fa ya ma ea ga) (hb : Rw w xb nb cb fb yb mb eb gb) (hna : na ≤ 1000) (hma : ma ≤ 1000) (hnb : nb ≤ 1000) (hmb : mb ≤ 1000) (hp : (rfB sa fa na ga ma && rfB sb fb nb gb mb) = false) :
    Calls Tryz.prog 86 #[.agg #[.bool sa, .slice xa na ca, .slice ya ma ea], .agg #[.bool sb, .slice xb nb cb, .slice yb mb eb]] w fun en w' => en = .returned (.tuple #[.agg #[.bool false, .slice none 0 0, .slice none 0 0], .int .i64 3]) ∧ Below w.heap.size w w' := by
  obtain ⟨h1, h2, h3, h4⟩ := qbox2 (w := w) (.bool sa) (.slice xa na ca) (.slice ya ma ea) (.bool sb) (.slice xb nb cb) (.slice yb mb eb) 25
  have h5 := ha.below h4
  have h6 := hb.below h4
  clear ha hb
  go_enter Tryz.func86, Tryz.ntmps86
  go_wp2_with fail
  generalize ((w.alloc (.cells #[.bool sa, .slice xa na ca, .slice ya ma ea] 25)).alloc (.cells #[.bool sb, .slice xb nb cb, .slice yb mb eb] 25)).alloc (.cells #[.bool false, .slice none 0 0, .slice none 0 0] 25) = w1 at *
  have HRA := hid h5; have HRB := hid h6; have HW := hid h4; have BA := hid h1; have BB := hid h2; have OB := hid h3
  clear h1 h2 h3 h4 h5 h6
  have c1 := rForm_c (s := sa) HRA.out (by omega) (by omega)
  cases h1 : rfB sa fa na ga ma
  · rw [h1] at c1
    refine c1.mono ?_
    rintro en w2 ⟨rfl, hb⟩
    have HB := hid (HW.out.trans (hb.mono HW.out.size))
    obtain ⟨hz, z0, z1, z2, zf⟩ := OB.out.below hb
    clear c1 hb hp
    go_wp2
    exact bodyPost_ret (v := .tuple #[.agg #[.bool false, .slice none 0 0, .slice none 0 0], .int .i64 3]) (by simp [results, Tryz.results86, go_sem, z0, z1, z2]) rfl ⟨rfl, below_st HB.out (by omega)⟩
  rw [h1] at c1
  refine c1.mono ?_
  rintro en w2 ⟨rfl, hb⟩
  have h2 : rfB sb fb nb gb mb = false := by rw [h1] at hp; simpa using hp
  have HB2 := hid hb
  clear c1 hb hp h1
  obtain ⟨zb, b0, b1, b2⟩ := BB.out.below HB2.out
  have c2 := rForm_c (s := sb) (HRB.out.below HB2.out) (by omega) (by omega)
  rw [h2] at c2
  go_wp2_with fail
  refine c2.mono ?_
  rintro en w3 ⟨rfl, hb⟩
  have HB3 := hid (HB2.out.trans (hb.mono HB2.out.size))
  have HB := hid (HW.out.trans (HB3.out.mono HW.out.size))
  obtain ⟨hz, z0, z1, z2, zf⟩ := OB.out.below HB3.out
  clear c2 hb h2 zb b0 b1 b2
  go_wp2
  exact bodyPost_ret (v := .tuple #[.agg #[.bool false, .slice none 0 0, .slice none 0 0], .int .i64 3]) (by simp [results, Tryz.results86, go_sem, z0, z1, z2]) rfl ⟨rfl, below_st HB.out (by omega)⟩

end Go.Proofs.YthofcgpghbaccaaGreat
namespace Go.Proofs.YthofcgpghbaccaaGreat
open Go.RowKit

theorem zIntE_c {w : World} {z : Int} (h0 : -9223372036854775808 ≤ z) (h1 : z ≤ 9223372036854775807) :
    Calls Tryz.prog 96 #[.int .i64 z] w fun e w' => ∃ s x n c d, e = .returned (.agg #[.bool s, .slice x n c]) ∧ Below w.heap.size w w' ∧ Hid (n ≤ 2 ∧ Zn w' s x n d z) := by
  refine (zInt_c z w h0 h1).mono ?_
  rintro e w' ⟨s, x, n, c, d, rfl, h⟩
  have h2 := vd_nonneg h.dg
  have hv := h.val
  cases s
  · have hv' : vd d n = z := hv
    exact ⟨false, x, n, c, d, rfl, h.bel, h.le, ⟨h.rd, h.dg, h.fm, by omega⟩, by show z = (z.natAbs : Int); omega, h.sgn⟩
  · have hv' : - vd d n = z := hv
    exact ⟨true, x, n, c, d, rfl, h.bel, h.le, ⟨h.rd, h.dg, h.fm, by omega⟩, by show z = -(z.natAbs : Int); omega, h.sgn⟩

set_option maxRecDepth 100000 in
set_option maxHeartbeats 4000000 in
theorem qInt_c {w : World} {z : Int} (h0 : -9223372036854775808 ≤ z) (h1 : z ≤ 9223372036854775807) :
    Calls Tryz.prog 72 #[.int .i64 z] w fun e w' => QAns 2 w w' e (z : Rat) := by
  have h2 := ob_new w 63
  have h3 := below_alloc (Below.refl w.heap.size w) (.cells #[.bool false, .slice none 0 0, .slice none 0 0] 63)
  go_enter Tryz.func72, Tryz.ntmps72
  go_wp2_with fail
  generalize w.alloc (.cells #[.bool false, .slice none 0 0, .slice none 0 0] 63) = w1 at *
  have OB := hid h2; have HW := hid h3
  clear h2 h3
  refine (zIntE_c h0 h1).mono ?_
  rintro e w2 ⟨s2, x2, n2, c2, d2, rfl, hb, H2⟩
  have HB2 := hid hb
  clear hb
  go_wp2_with fail
  refine (dWord_c (V := 1) (by decide)).mono ?_
  rintro e w3 ⟨z3, k3, c3, d3, rfl, hb, H3⟩
  have HB3 := hid (HB2.out.trans (hb.mono HB2.out.size)); have Z3 := hid (H2.out.2.below hb)
  have hk3 := H3.out.1; have hn2 := H2.out.1
  clear hb
  obtain ⟨hz, z0, z1, z2, zf⟩ := OB.out.below HB3.out
  go_wp2
  refine bodyPost_ret (v := .agg #[.bool s2, .slice x2 n2 c2, .slice z3 k3 c3]) (by simp [results, Tryz.results72, go_sem, z0, z1, z2]) rfl ⟨s2, x2, n2, c2, d2, z3, k3, c3, d3, rfl, below_st (HW.out.trans (HB3.out.mono HW.out.size)) (by omega), by omega, by omega, (OB.out.below HB3.out).qn ⟨?_, ?_⟩⟩
  · rw [Rat.num_intCast]; exact Z3.out
  · rw [Rat.den_intCast]; exact H3.out.2

set_option maxRecDepth 100000 in
set_option maxHeartbeats 4000000 in
theorem docOfQ_c {w : World} {z : Int} (h0 : -9223372036854775808 ≤ z) (h1 : z ≤ 9223372036854775807) :
    Calls Tryz.prog 40 #[.int .i64 z] w fun e w' => RatAns 4 w w' e (z : Rat) := by
  have h2 := ob_new w 25
  have h3 := below_alloc (Below.refl w.heap.size w) (.cells #[.bool false, .slice none 0 0, .slice none 0 0] 25)
  go_enter Tryz.func40, Tryz.ntmps40
  go_wp2_with fail
  generalize w.alloc (.cells #[.bool false, .slice none 0 0, .slice none 0 0] 25) = w1 at *
  have OB := hid h2; have HW := hid h3
  clear h2 h3
  refine (qInt_c h0 h1).mono ?_
  rintro e w2 ⟨s2, x2, n2, c2, d2, y2, m2, e2, g2, rfl, hb, hl1, hl2, hq⟩
  have HB2 := hid hb; have HQ := hid hq
  clear hb hq
  go_wp2_with fail
  refine (qToR_c HQ.out (by omega) (by omega)).mono ?_
  rintro e w3 ⟨z3, k3, c3, f3, y3, m3, e3, g3, rfl, hb, R3⟩
  have HB3 := hid (HB2.out.trans (hb.mono HB2.out.size))
  clear hb
  obtain ⟨hz, z0, z1, z2, zf⟩ := OB.out.below HB3.out
  go_wp2
  exact bodyPost_ret (v := .agg #[.bool s2, .slice z3 k3 c3, .slice y3 m3 e3]) (by simp [results, Tryz.results40, go_sem, z0, z1, z2]) rfl ⟨s2, z3, k3, c3, f3, y3, m3, e3, g3, rfl, below_st (HW.out.trans (HB3.out.mono HW.out.size)) (by omega), (OB.out.below HB3.out).rn (R3.out.mono (by omega))⟩
end Go.Proofs.YthofcgpghbaccaaGreat
namespace Go.Proofs.YthofcgpghbaccaaGreat
open Go.RowKit

/-- The two numbers as the reference holds them. -/
structure WAt (w1 wx : World) (b8 b9 : Nat) (s5 : Bool) (x5 : Option Addr) (n5 c5 : Nat) (d5 : Nat → Int) (y5 : Option Addr) (m5 e5 : Nat) (g5 : Nat → Int) (s6 : Bool) (x6 : Option Addr) (n6 c6 : Nat) (d6 : Nat → Int) (y6 : Option Addr) (m6 e6 : Nat) (g6 : Nat → Int) (qa qb : Rat) : Prop where
  bx : Bx3 wx b8 (.bool s5) (.slice x5 n5 c5) (.slice y5 m5 e5)
  by' : Bx3 wx b9 (.bool s6) (.slice x6 n6 c6) (.slice y6 m6 e6)
  bel : Below w1.heap.size w1 wx
  za : Qn wx s5 x5 n5 d5 y5 m5 g5 qa
  zb : Qn wx s6 x6 n6 d6 y6 m6 g6 qb
  l5 : n5 ≤ 200 ∧ m5 ≤ 200
  l6 : n6 ≤ 200 ∧ m6 ≤ 200
theorem size_st3 (w : World) (B : Nat) (u0 u1 u2 : Value) : (((w.setCell ⟨B, 0, none⟩ u0).setCell ⟨B, 1, none⟩ u1).setCell ⟨B, 2, none⟩ u2).heap.size = w.heap.size := by simp [World.setCell]
theorem Ob.put {w B} (h : Ob w B) (u0 u1 u2 : Value) : Bx3 (((w.setCell ⟨B, 0, none⟩ u0).setCell ⟨B, 1, none⟩ u1).setCell ⟨B, 2, none⟩ u2) B u0 u1 u2 :=
  ⟨by rw [size_st3]; exact h.z, kCo (by decide) (kCo (by decide) (kCe (kI0 h.z0))), kCo (by decide) (kCe (kIs (kI0 h.z1))), kCe (kIs (kIs (kI0 h.z2)))⟩
theorem Ob.far {w B B' u0 u1 u2} (h : Ob w B) (hB : B' ≠ B) : Ob (((w.setCell ⟨B', 0, none⟩ u0).setCell ⟨B', 1, none⟩ u1).setCell ⟨B', 2, none⟩ u2) B := ⟨by rw [size_st3]; exact h.z, kCs hB (kCs hB (kCs hB h.z0)), kCs hB (kCs hB (kCs hB h.z1)), kCs hB (kCs hB (kCs hB h.z2)), fun o => kFs (kFs (kFs (h.zf o)))⟩
theorem Bx3.far {w B B' u0 u1 u2 a0 a1 a2} (h : Bx3 w B a0 a1 a2) (hB : B' ≠ B) : Bx3 (((w.setCell ⟨B', 0, none⟩ u0).setCell ⟨B', 1, none⟩ u1).setCell ⟨B', 2, none⟩ u2) B a0 a1 a2 := ⟨by rw [size_st3]; exact h.z, kCs hB (kCs hB (kCs hB h.x0)), kCs hB (kCs hB (kCs hB h.x1)), kCs hB (kCs hB (kCs hB h.x2))⟩
theorem bx3_next (w : World) (o : Obj) (a0 a1 a2 : Value) (t : TypeId) : Bx3 ((w.alloc o).alloc (.cells #[a0, a1, a2] t)) (w.heap.size + 1) a0 a1 a2 := by
  have := bx3_at (w.alloc o) a0 a1 a2 t
  rw [size_alloc1] at this; exact this
theorem bx3_st (w : World) (B : Nat) (u0 u1 u2 a0 a1 a2 : Value) (t : TypeId) : Bx3 ((((w.setCell ⟨B, 0, none⟩ u0).setCell ⟨B, 1, none⟩ u1).setCell ⟨B, 2, none⟩ u2).alloc (.cells #[a0, a1, a2] t)) w.heap.size a0 a1 a2 := by
  have := bx3_at (((w.setCell ⟨B, 0, none⟩ u0).setCell ⟨B, 1, none⟩ u1).setCell ⟨B, 2, none⟩ u2) a0 a1 a2 t
  rw [size_st3] at this; exact this
theorem ob_at {w : World} {t : TypeId} {B : Nat} (h : B = w.heap.size) : Ob (w.alloc (.cells #[.bool false, .slice none 0 0, .slice none 0 0] t)) B := by subst h; exact ob_new w t
theorem kObA {w : World} {B : Nat} {o : Obj} (h : Ob w B) : Ob (w.alloc o) B := h.alloc o
theorem kQa {w s x n d y m g q} {o : Obj} (h : Qn w s x n d y m g q) : Qn (w.alloc o) s x n d y m g q := h.alloc o
theorem wat_aa {w1 v : World} {s5 : Bool} {x5 : Option Addr} {n5 c5 : Nat} {d5 : Nat → Int} {y5 : Option Addr} {m5 e5 : Nat} {g5 : Nat → Int} {s6 : Bool} {x6 : Option Addr} {n6 c6 : Nat} {d6 : Nat → Int} {y6 : Option Addr} {m6 e6 : Nat} {g6 : Nat → Int} {qa qb : Rat} {t : TypeId} (hb : Below w1.heap.size w1 v) (h5 : n5 ≤ 200 ∧ m5 ≤ 200 ∧ Qn v s5 x5 n5 d5 y5 m5 g5 qa) (h6 : n6 ≤ 200 ∧ m6 ≤ 200 ∧ Qn v s6 x6 n6 d6 y6 m6 g6 qb) : WAt w1 ((v.alloc (.cells #[.bool s5, .slice x5 n5 c5, .slice y5 m5 e5] t)).alloc (.cells #[.bool s6, .slice x6 n6 c6, .slice y6 m6 e6] t)) v.heap.size (v.heap.size + 1) s5 x5 n5 c5 d5 y5 m5 e5 g5 s6 x6 n6 c6 d6 y6 m6 e6 g6 qa qb :=
  ⟨(bx3_at _ _ _ _ _).alloc _, bx3_next _ _ _ _ _ _, below_alloc (below_alloc hb _) _, (h5.2.2.alloc _).alloc _, (h6.2.2.alloc _).alloc _, ⟨h5.1, h5.2.1⟩, ⟨h6.1, h6.2.1⟩⟩
theorem wat_ab {w1 v : World} {s5 : Bool} {x5 : Option Addr} {n5 c5 : Nat} {d5 : Nat → Int} {y5 : Option Addr} {m5 e5 : Nat} {g5 : Nat → Int} {s6 : Bool} {x6 : Option Addr} {n6 c6 : Nat} {d6 : Nat → Int} {y6 : Option Addr} {m6 e6 : Nat} {g6 : Nat → Int} {qa qb : Rat} {t : TypeId} (hb : Below w1.heap.size w1 v) (h5 : n5 ≤ 200 ∧ m5 ≤ 200 ∧ Qn v s5 x5 n5 d5 y5 m5 g5 qa) (h6 : n6 ≤ 200 ∧ m6 ≤ 200 ∧ Qn v s6 x6 n6 d6 y6 m6 g6 qb) : WAt w1 ((v.alloc (.cells #[.bool s6, .slice x6 n6 c6, .slice y6 m6 e6] t)).alloc (.cells #[.bool s5, .slice x5 n5 c5, .slice y5 m5 e5] t)) (v.heap.size + 1) v.heap.size s5 x5 n5 c5 d5 y5 m5 e5 g5 s6 x6 n6 c6 d6 y6 m6 e6 g6 qa qb :=
  ⟨bx3_next _ _ _ _ _ _, (bx3_at _ _ _ _ _).alloc _, below_alloc (below_alloc hb _) _, (h5.2.2.alloc _).alloc _, (h6.2.2.alloc _).alloc _, ⟨h5.1, h5.2.1⟩, ⟨h6.1, h6.2.1⟩⟩
theorem wat_sa {w1 v : World} {s5 : Bool} {x5 : Option Addr} {n5 c5 : Nat} {d5 : Nat → Int} {y5 : Option Addr} {m5 e5 : Nat} {g5 : Nat → Int} {s6 : Bool} {x6 : Option Addr} {n6 c6 : Nat} {d6 : Nat → Int} {y6 : Option Addr} {m6 e6 : Nat} {g6 : Nat → Int} {qa qb : Rat} {b8 : Nat} {t : TypeId} (hb : Below w1.heap.size w1 v) (h5 : n5 ≤ 200 ∧ m5 ≤ 200 ∧ Qn v s5 x5 n5 d5 y5 m5 g5 qa) (h6 : n6 ≤ 200 ∧ m6 ≤ 200 ∧ Qn v s6 x6 n6 d6 y6 m6 g6 qb) (h8 : Ob v b8) (o8 : w1.heap.size ≤ b8) : WAt w1 (((((v).setCell ⟨b8, 0, none⟩ (.bool s5)).setCell ⟨b8, 1, none⟩ (.slice x5 n5 c5)).setCell ⟨b8, 2, none⟩ (.slice y5 m5 e5)).alloc (.cells #[.bool s6, .slice x6 n6 c6, .slice y6 m6 e6] t)) b8 v.heap.size s5 x5 n5 c5 d5 y5 m5 e5 g5 s6 x6 n6 c6 d6 y6 m6 e6 g6 qa qb :=
  ⟨(h8.put _ _ _).alloc _, bx3_st _ _ _ _ _ _ _ _ _, below_alloc (below_st hb o8) _, (h8.qn h5.2.2).alloc _, (h8.qn h6.2.2).alloc _, ⟨h5.1, h5.2.1⟩, ⟨h6.1, h6.2.1⟩⟩
theorem wat_as {w1 v : World} {s5 : Bool} {x5 : Option Addr} {n5 c5 : Nat} {d5 : Nat → Int} {y5 : Option Addr} {m5 e5 : Nat} {g5 : Nat → Int} {s6 : Bool} {x6 : Option Addr} {n6 c6 : Nat} {d6 : Nat → Int} {y6 : Option Addr} {m6 e6 : Nat} {g6 : Nat → Int} {qa qb : Rat} {b9 : Nat} {t : TypeId} (hb : Below w1.heap.size w1 v) (h5 : n5 ≤ 200 ∧ m5 ≤ 200 ∧ Qn v s5 x5 n5 d5 y5 m5 g5 qa) (h6 : n6 ≤ 200 ∧ m6 ≤ 200 ∧ Qn v s6 x6 n6 d6 y6 m6 g6 qb) (h9 : Ob v b9) (o9 : w1.heap.size ≤ b9) : WAt w1 (((((v).setCell ⟨b9, 0, none⟩ (.bool s6)).setCell ⟨b9, 1, none⟩ (.slice x6 n6 c6)).setCell ⟨b9, 2, none⟩ (.slice y6 m6 e6)).alloc (.cells #[.bool s5, .slice x5 n5 c5, .slice y5 m5 e5] t)) v.heap.size b9 s5 x5 n5 c5 d5 y5 m5 e5 g5 s6 x6 n6 c6 d6 y6 m6 e6 g6 qa qb :=
  ⟨bx3_st _ _ _ _ _ _ _ _ _, (h9.put _ _ _).alloc _, below_alloc (below_st hb o9) _, (h9.qn h5.2.2).alloc _, (h9.qn h6.2.2).alloc _, ⟨h5.1, h5.2.1⟩, ⟨h6.1, h6.2.1⟩⟩
theorem wat_ss {w1 v : World} {s5 : Bool} {x5 : Option Addr} {n5 c5 : Nat} {d5 : Nat → Int} {y5 : Option Addr} {m5 e5 : Nat} {g5 : Nat → Int} {s6 : Bool} {x6 : Option Addr} {n6 c6 : Nat} {d6 : Nat → Int} {y6 : Option Addr} {m6 e6 : Nat} {g6 : Nat → Int} {qa qb : Rat} {b8 b9 : Nat} (hb : Below w1.heap.size w1 v) (h5 : n5 ≤ 200 ∧ m5 ≤ 200 ∧ Qn v s5 x5 n5 d5 y5 m5 g5 qa) (h6 : n6 ≤ 200 ∧ m6 ≤ 200 ∧ Qn v s6 x6 n6 d6 y6 m6 g6 qb) (h8 : Ob v b8) (o8 : w1.heap.size ≤ b8) (h9 : Ob v b9) (o9 : w1.heap.size ≤ b9) (hne : b9 ≠ b8) : WAt w1 (((((((v).setCell ⟨b8, 0, none⟩ (.bool s5)).setCell ⟨b8, 1, none⟩ (.slice x5 n5 c5)).setCell ⟨b8, 2, none⟩ (.slice y5 m5 e5)).setCell ⟨b9, 0, none⟩ (.bool s6)).setCell ⟨b9, 1, none⟩ (.slice x6 n6 c6)).setCell ⟨b9, 2, none⟩ (.slice y6 m6 e6)) b8 b9 s5 x5 n5 c5 d5 y5 m5 e5 g5 s6 x6 n6 c6 d6 y6 m6 e6 g6 qa qb :=
  ⟨(h8.put _ _ _).far hne, (h9.far hne.symm).put _ _ _, below_st (below_st hb o8) o9, (h9.far hne.symm).qn (h8.qn h5.2.2), (h9.far hne.symm).qn (h8.qn h6.2.2), ⟨h5.1, h5.2.1⟩, ⟨h6.1, h6.2.1⟩⟩
def kq (kind : Nat) (a b : Rat) : Rat := if kind = 0 then a + b else if kind = 1 then a - b else if kind = 2 then a * b else a / b
/-- What Doc answers, of numbers in form. -/
def DocQ (kind : Nat) (qa qb : Rat) (w w' : World) (en : Ending) : Prop := ∃ s x n c f y m d g er, en = .returned (.tuple #[.agg #[.bool s, .slice x n c, .slice y m d], .int .i64 er]) ∧ Below w.heap.size w w' ∧ ((kind = 3 ∧ qb.num = 0) ∧ er = 4 ∧ n = 0 ∧ m = 0 ∧ s = false ∨ ¬ (kind = 3 ∧ qb.num = 0) ∧ er = 0 ∧ Rn 2000 w' s x n c f y m d g (kq kind qa qb))

end Go.Proofs.YthofcgpghbaccaaGreat
namespace Go.Proofs.YthofcgpghbaccaaGreat
open Go.RowKit

/-- What a call of the four kinds answers. -/
def OQ (p : Bool) (kind : Nat) (qa qb : Rat) (w' : World) (s : Bool) (x : Option Addr) (n c : Nat) (f : Nat → Int) (y : Option Addr) (m d : Nat) (g : Nat → Int) (er : Int) : Prop :=
  p = false ∧ er = 3 ∧ n = 0 ∧ m = 0 ∧ s = false ∨ p = true ∧ (kind = 3 ∧ qb.num = 0) ∧ er = 4 ∧ n = 0 ∧ m = 0 ∧ s = false ∨ p = true ∧ ¬ (kind = 3 ∧ qb.num = 0) ∧ er = 0 ∧ Rn 2000 w' s x n c f y m d g (kq kind qa qb)
theorem OQ.st {p kind qa qb w' s x n c f y m d g er B u0 u1 u2} (h : OQ p kind qa qb w' s x n c f y m d g er) (hB : Ob w' B) : OQ p kind qa qb (((w'.setCell ⟨B, 0, none⟩ u0).setCell ⟨B, 1, none⟩ u1).setCell ⟨B, 2, none⟩ u2) s x n c f y m d g er := by
  rcases h with h | h | ⟨h1, h2, h3, h4⟩
  · exact .inl h
  · exact .inr (.inl h)
  · exact .inr (.inr ⟨h1, h2, h3, hB.rn h4⟩)
theorem Rn.num_zero {L w s x n c f y m d g q} (h : Rn L w s x n c f y m d g q) : q.num = 0 ↔ n = 0 := by
  constructor
  · intro h0
    rcases Nat.eq_zero_or_pos n with hn | hn
    · exact hn
    · have h1 := vf_pos h.num.lm (fm_of_wfB h.num.wf) hn
      have h2 := h.num.val
      cases s
      · rw [wv_false] at h2; omega
      · rw [wv_true] at h2; omega
  · intro hn
    subst hn
    have h2 := h.num.val
    cases s
    · rw [wv_false] at h2; exact h2.symm
    · rw [wv_true] at h2; have : -(0 : Int) = q.num := h2; omega

theorem rAdd_g {w : World} {sa : Bool} {xa : Option Addr} {na ca : Nat} {fa : Nat → Int} {ya : Option Addr} {ma ea : Nat} {ga : Nat → Int} {sb : Bool} {xb : Option Addr} {nb cb : Nat} {fb : Nat → Int} {yb : Option Addr} {mb eb : Nat} {gb : Nat → Int} (ha : Rw w xa na ca fa ya ma ea ga) (hb : Rw w xb nb cb fb yb mb eb gb) (hna : na ≤ 1000) (hma : ma ≤ 1000) (hnb : nb ≤ 1000) (hmb : mb ≤ 1000) {qa qb : Rat} {pa pb : Bool} (hpa : rfB sa fa na ga ma = pa) (hpb : rfB sb fb nb gb mb = pb) (hqa : pa = true → Rn 100 w sa xa na ca fa ya ma ea ga qa) (hqb : pb = true → Rn 100 w sb xb nb cb fb yb mb eb gb qb) :
    Calls Tryz.prog 85 #[.agg #[.bool sa, .slice xa na ca, .slice ya ma ea], .agg #[.bool sb, .slice xb nb cb, .slice yb mb eb]] w fun en w' => ∃ s x n c f y m d g er, en = .returned (.tuple #[.agg #[.bool s, .slice x n c, .slice y m d], .int .i64 er]) ∧ Below w.heap.size w w' ∧ OQ (pa && pb) 0 qa qb w' s x n c f y m d g er := by
  cases hp : (pa && pb)
  · exact (rAddErr_c ha hb hna hma hnb hmb (by rw [hpa, hpb]; exact hp)).mono (fun _ _ ⟨k1, k2⟩ => ⟨false, none, 0, 0, fun _ => 0, none, 0, 0, fun _ => 0, 3, k1, k2, .inl ⟨rfl, rfl, rfl, rfl, rfl⟩⟩)
  · have hpp : pa = true ∧ pb = true := by simpa using hp
    exact (rAdd_n (hqa hpp.1) (hqb hpp.2) (by omega)).mono (fun _ _ ⟨s, x, n, c, f, y, m, d, g, k1, k2, k3⟩ => ⟨s, x, n, c, f, y, m, d, g, 0, k1, k2, .inr (.inr ⟨rfl, fun h => by omega, rfl, k3.mono (by omega)⟩)⟩)
theorem rMul_g {w : World} {sa : Bool} {xa : Option Addr} {na ca : Nat} {fa : Nat → Int} {ya : Option Addr} {ma ea : Nat} {ga : Nat → Int} {sb : Bool} {xb : Option Addr} {nb cb : Nat} {fb : Nat → Int} {yb : Option Addr} {mb eb : Nat} {gb : Nat → Int} (ha : Rw w xa na ca fa ya ma ea ga) (hb : Rw w xb nb cb fb yb mb eb gb) (hna : na ≤ 1000) (hma : ma ≤ 1000) (hnb : nb ≤ 1000) (hmb : mb ≤ 1000) {qa qb : Rat} {pa pb : Bool} (hpa : rfB sa fa na ga ma = pa) (hpb : rfB sb fb nb gb mb = pb) (hqa : pa = true → Rn 100 w sa xa na ca fa ya ma ea ga qa) (hqb : pb = true → Rn 100 w sb xb nb cb fb yb mb eb gb qb) :
    Calls Tryz.prog 86 #[.agg #[.bool sa, .slice xa na ca, .slice ya ma ea], .agg #[.bool sb, .slice xb nb cb, .slice yb mb eb]] w fun en w' => ∃ s x n c f y m d g er, en = .returned (.tuple #[.agg #[.bool s, .slice x n c, .slice y m d], .int .i64 er]) ∧ Below w.heap.size w w' ∧ OQ (pa && pb) 2 qa qb w' s x n c f y m d g er := by
  cases hp : (pa && pb)
  · exact (rMulErr_c ha hb hna hma hnb hmb (by rw [hpa, hpb]; exact hp)).mono (fun _ _ ⟨k1, k2⟩ => ⟨false, none, 0, 0, fun _ => 0, none, 0, 0, fun _ => 0, 3, k1, k2, .inl ⟨rfl, rfl, rfl, rfl, rfl⟩⟩)
  · have hpp : pa = true ∧ pb = true := by simpa using hp
    exact (rMul_n (hqa hpp.1) (hqb hpp.2) (by omega)).mono (fun _ _ ⟨s, x, n, c, f, y, m, d, g, k1, k2, k3⟩ => ⟨s, x, n, c, f, y, m, d, g, 0, k1, k2, .inr (.inr ⟨rfl, fun h => by omega, rfl, k3.mono (by omega)⟩)⟩)
end Go.Proofs.YthofcgpghbaccaaGreat
namespace Go.Proofs.YthofcgpghbaccaaGreat
open Go.RowKit

set_option maxRecDepth 100000 in
set_option maxHeartbeats 4000000 in
theorem rOf_c {w : World} {z : Int} (h0 : -9223372036854775808 ≤ z) (h1 : z ≤ 9223372036854775807) :
    Calls Tryz.prog 52 #[.int .i64 z] w fun e w' => RatAns 4 w w' e (z : Rat) := by
  have h2 := ob_new w 25
  have h3 := below_alloc (Below.refl w.heap.size w) (.cells #[.bool false, .slice none 0 0, .slice none 0 0] 25)
  go_enter Tryz.func52, Tryz.ntmps52
  go_wp2_with fail
  generalize w.alloc (.cells #[.bool false, .slice none 0 0, .slice none 0 0] 25) = w1 at *
  have OB1 := hid h2; have HW1 := hid h3
  clear h2 h3
  refine (wOf_c z w1 h0 h1).mono ?_
  rintro e w2 ⟨s2, x2, n2, c2, f2, rfl, hr2, hv2⟩
  have hb := hr2.res.bel
  have hn2 := hr2.res.le
  have hw2 := (hr2.wn hv2).alloc (.cells #[.bool s2, .slice x2 n2 c2] 103)
  have hbx : Bx (w2.alloc (.cells #[.bool s2, .slice x2 n2 c2] 103)) w2.heap.size s2 x2 n2 c2 := ⟨by simp, kN0, kN1⟩
  have hob := (OB1.out.below hb).alloc (.cells #[.bool s2, .slice x2 n2 c2] 103)
  have hbw := below_alloc (HW1.out.trans (hb.mono HW1.out.size)) (.cells #[.bool s2, .slice x2 n2 c2] 103)
  have hB8 : w.heap.size < w2.heap.size := (OB1.out.below hb).z
  clear hr2 hv2 hb OB1 HW1
  go_wp2_with fail
  generalize w2.alloc (.cells #[.bool s2, .slice x2 n2 c2] 103) = w3 at *
  generalize w2.heap.size = b3 at *
  have W3 := hid hw2; have OB := hid hob; have HW := hid hbw
  obtain ⟨za, a0, a1⟩ := hbx
  obtain ⟨hz, z0, z1, z2, zf⟩ := hob
  clear hw2 hbw
  have C1 : Hid (∀ W : World, Calls Tryz.prog 83 #[] W fun e w' => ∃ x f, e = .returned (.slice x 1 1) ∧ Below W.heap.size W w' ∧ Hid (Wn w' false x 1 1 f 1)) := fun W => ratOne_c W
  have C2 : Hid (∀ (W : World) (y : Option Addr), Calls Tryz.prog 82 #[.bool s2, .slice x2 n2 c2, .slice y 1 1] W fun e w' => ∃ r, e = .returned (.agg #[.bool r, .slice x2 n2 c2, .slice y 1 1]) ∧ Below W.heap.size W w' ∧ Hid (r = (s2 && decide (0 < n2)))) := fun W y => (rsigned_c s2 x2 y n2 c2 1 1 W (by omega)).mono (fun _ _ ⟨r, k1, k2, k3⟩ => ⟨r, k1, k3, k2⟩)
  go_region_held3 (fun w' => w'.cell? ⟨b3, 0, none⟩ = some (.bool s2) ∧ w'.cell? ⟨b3, 1, none⟩ = some (.slice x2 n2 c2) ∧ (w'.cell? ⟨w.heap.size, 0, none⟩).isSome = true ∧ (w'.cell? ⟨w.heap.size, 1, none⟩).isSome = true ∧ (w'.cell? ⟨w.heap.size, 2, none⟩).isSome = true ∧ w'.frozen? ⟨w.heap.size, 0, none⟩ = false ∧ w'.frozen? ⟨w.heap.size, 1, none⟩ = false ∧ w'.frozen? ⟨w.heap.size, 2, none⟩ = false)
    (refine ⟨?_, ?_, ?_, ?_, ?_, ?_, ?_, ?_⟩ <;> repeat (with_reducible first | assumption | exact zf _ | exact tf _ | exact uf _ | exact kI0 z0 | exact kI0 z1 | exact kI0 z2 | exact kI0 t0 | exact kI0 t1 | exact kI0 t2 | exact kI0 u0 | exact kI0 u1 | exact kI0 u2 | refine kCd ?_ | refine kId ?_ | refine kFd ?_ | refine kCs (by simp only [ne_eq]; omega) ?_ | refine kIs ?_ | refine kFs ?_ | refine kCb (by assumption) ?_ | refine kIb (by assumption) ?_))
    (first
      | (go_at_call 83; with_reducible refine (C1.out _).mono ?_; rintro e v5 ⟨y5, f5, rfl, hb5, H5⟩; have Tt : Ob v5 (w.heap.size) := (by repeat (with_reducible first | exact OB.out | exact Tt | exact Tu | refine Ob.drew ?_ | refine kOb (by assumption) ?_)); obtain ⟨_, t0, t1, t2, tf⟩ := id Tt)
      | (go_at_call 82; with_reducible refine (C2.out _ y5).mono ?_; rintro e v6 ⟨r6, rfl, hb6, H6⟩; have Tu : Ob v6 (w.heap.size) := (by repeat (with_reducible first | exact OB.out | exact Tt | exact Tu | refine Ob.drew ?_ | refine kOb (by assumption) ?_)); obtain ⟨_, u0, u1, u2, uf⟩ := id Tu))
  all_goals
    have W5 : Wn v6 false y5 1 1 f5 1 := (by repeat (with_reducible first | exact H5.out | refine kWd ?_ | refine kWb (by assumption) ?_))
    have hb : Below w3.heap.size w3 v6 := (by repeat (with_reducible first | assumption | exact Below.refl _ _ | refine Below.drew ?_ | refine kBb (by assumption) ?_))
    have hr : r6 = s2 := by
      rw [H6.out]
      have := ((wfB_iff _ _ _).1 W3.out.wf).2
      cases s2
      · rfl
      · simp; exact this rfl
    subst hr
    go_wp2
    refine bodyPost_ret (v := .agg #[.bool r6, .slice x2 n2 c2, .slice y5 1 1]) (by simp [results, Tryz.results52, go_sem, u0, u1, u2]) rfl ⟨r6, x2, n2, c2, f2, y5, 1, 1, f5, rfl, below_st (HW.out.trans (hb.mono HW.out.size)) (Nat.le_refl _), Tu.rn ⟨?_, ?_, by omega, by omega⟩⟩
    · rw [Rat.num_intCast]; exact W3.out.below hb
    · rw [Rat.den_intCast]; exact W5
end Go.Proofs.YthofcgpghbaccaaGreat
namespace Go.Proofs.YthofcgpghbaccaaGreat
open Go.RowKit

/-- A box of four cells. -/
structure Bx4 (w : World) (B : Nat) (a0 a1 a2 a3 : Value) : Prop where
  z : B < w.heap.size
  x0 : w.cell? ⟨B, 0, none⟩ = some a0
  x1 : w.cell? ⟨B, 1, none⟩ = some a1
  x2 : w.cell? ⟨B, 2, none⟩ = some a2
  x3 : w.cell? ⟨B, 3, none⟩ = some a3
theorem Bx4.below {w w' B a0 a1 a2 a3} (h : Bx4 w B a0 a1 a2 a3) (hb : Below w.heap.size w w') : Bx4 w' B a0 a1 a2 a3 := ⟨Nat.lt_of_lt_of_le h.z hb.size, kCb hb h.x0, kCb hb h.x1, kCb hb h.x2, kCb hb h.x3⟩
theorem Bx4.alloc {w B a0 a1 a2 a3} (h : Bx4 w B a0 a1 a2 a3) (o : Obj) : Bx4 (w.alloc o) B a0 a1 a2 a3 := h.below (below_alloc (Below.refl _ _) o)
theorem Bx4.next {w w' B a0 a1 a2 a3} {o : Obj} (h : Bx4 w B a0 a1 a2 a3) (hb : Below (w.alloc o).heap.size (w.alloc o) w') : Bx4 w' B a0 a1 a2 a3 := (h.alloc o).below hb
theorem bx4_at (w : World) (a0 a1 a2 a3 : Value) (t : TypeId) : Bx4 (w.alloc (.cells #[a0, a1, a2, a3] t)) w.heap.size a0 a1 a2 a3 := ⟨by simp, by simp [go_sem], by simp [go_sem], by simp [go_sem], by simp [go_sem]⟩
theorem bx4_new {w w' : World} {a0 a1 a2 a3 : Value} {t : TypeId} (hb : Below (w.alloc (.cells #[a0, a1, a2, a3] t)).heap.size (w.alloc (.cells #[a0, a1, a2, a3] t)) w') : Bx4 w' w.heap.size a0 a1 a2 a3 := (bx4_at w a0 a1 a2 a3 t).below hb
/-- A new box for an answer of four cells. -/
structure Ob4 (w : World) (B : Nat) : Prop where
  z : B < w.heap.size
  z0 : w.cell? ⟨B, 0, none⟩ = some (.int .i64 0)
  z1 : w.cell? ⟨B, 1, none⟩ = some (.bool false)
  z2 : w.cell? ⟨B, 2, none⟩ = some (.slice none 0 0)
  z3 : w.cell? ⟨B, 3, none⟩ = some (.slice none 0 0)
  zf : ∀ o, w.frozen? ⟨B, o, none⟩ = false
theorem Ob4.below {w w' B} (h : Ob4 w B) (hb : Below w.heap.size w w') : Ob4 w' B := by
  obtain ⟨h1, h2⟩ := bcell hb
  exact ⟨Nat.lt_of_lt_of_le h.z hb.size, kCb hb h.z0, kCb hb h.z1, kCb hb h.z2, kCb hb h.z3, fun o => (h2 _ _ h.z).trans (h.zf o)⟩
theorem kO4b {w w' B} (hb : Below w.heap.size w w') (h : Ob4 w B) : Ob4 w' B := h.below hb
theorem Ob4.alloc {w B} (h : Ob4 w B) (o : Obj) : Ob4 (w.alloc o) B := h.below (below_alloc (Below.refl _ _) o)
theorem kO4a {w B} {o : Obj} (h : Ob4 w B) : Ob4 (w.alloc o) B := h.alloc o
theorem Ob4.next {w w' B} {o : Obj} (h : Ob4 w B) (hb : Below (w.alloc o).heap.size (w.alloc o) w') : Ob4 w' B := (h.alloc o).below hb
theorem Ob4.drew {w B} (h : Ob4 w B) : Ob4 w.drew B := ⟨h.z, h.z0, h.z1, h.z2, h.z3, h.zf⟩
theorem ob4_new (w : World) (t : TypeId) : Ob4 (w.alloc (.cells #[.int .i64 0, .bool false, .slice none 0 0, .slice none 0 0] t)) w.heap.size := by
  refine ⟨by simp, by simp [go_sem], by simp [go_sem], by simp [go_sem], by simp [go_sem], fun o => ?_⟩
  have e := heap_alloc_new w (.cells #[.int .i64 0, .bool false, .slice none 0 0, .slice none 0 0] t)
  simp only [World.frozen?, e]; simp
theorem ob4_at {w : World} {t : TypeId} {B : Nat} (h : B = w.heap.size) : Ob4 (w.alloc (.cells #[.int .i64 0, .bool false, .slice none 0 0, .slice none 0 0] t)) B := by subst h; exact ob4_new w t
/-- The world behind the store of a bound. -/
def st4 (w : World) (B : Nat) (u0 u1 u2 u3 : Value) : World := (((w.setCell ⟨B, 0, none⟩ u0).setCell ⟨B, 1, none⟩ u1).setCell ⟨B, 2, none⟩ u2).setCell ⟨B, 3, none⟩ u3
theorem Ob4.rd {w B u0 u1 u2 u3 x n f} (h : Ob4 w B) (hx : Rd .u64 w x n f) : Rd .u64 ((((w.setCell ⟨B, 0, none⟩ u0).setCell ⟨B, 1, none⟩ u1).setCell ⟨B, 2, none⟩ u2).setCell ⟨B, 3, none⟩ u3) x n f :=
  rd_setne (cell_off (by decide) (cell_off (by decide) (cell_off (by decide) h.z3))) (fun i h => by cases h) (rd_setne (cell_off (by decide) (cell_off (by decide) h.z2)) (fun i h => by cases h) (rd_setne (cell_off (by decide) h.z1) (fun i h => by cases h) (rd_setne h.z0 (fun i h => by cases h) hx)))
theorem Ob4.wn {w B u0 u1 u2 u3 s x n c f v} (h : Ob4 w B) (hx : Wn w s x n c f v) : Wn ((((w.setCell ⟨B, 0, none⟩ u0).setCell ⟨B, 1, none⟩ u1).setCell ⟨B, 2, none⟩ u2).setCell ⟨B, 3, none⟩ u3) s x n c f v := ⟨h.rd hx.rd, hx.lm, hx.wf, hx.cap, hx.nil, hx.val⟩
theorem Ob4.dn {w B u0 u1 u2 u3 x n d V} (h : Ob4 w B) (hx : Dn w x n d V) : Dn ((((w.setCell ⟨B, 0, none⟩ u0).setCell ⟨B, 1, none⟩ u1).setCell ⟨B, 2, none⟩ u2).setCell ⟨B, 3, none⟩ u3) x n d V := ⟨h.rd hx.rd, hx.dg, hx.fm, hx.val⟩
theorem Ob4.rn {w B u0 u1 u2 u3 L s x n c f y m d g q} (h : Ob4 w B) (hx : Rn L w s x n c f y m d g q) : Rn L ((((w.setCell ⟨B, 0, none⟩ u0).setCell ⟨B, 1, none⟩ u1).setCell ⟨B, 2, none⟩ u2).setCell ⟨B, 3, none⟩ u3) s x n c f y m d g q := ⟨h.wn hx.num, h.wn hx.den, hx.ln, hx.ld⟩
theorem Ob4.rw {w B u0 u1 u2 u3 x n c f y m d g} (h : Ob4 w B) (hx : Rw w x n c f y m d g) : Rw ((((w.setCell ⟨B, 0, none⟩ u0).setCell ⟨B, 1, none⟩ u1).setCell ⟨B, 2, none⟩ u2).setCell ⟨B, 3, none⟩ u3) x n c f y m d g := ⟨h.rd hx.rx, hx.lx, hx.cx, hx.nx, h.rd hx.ry, hx.ly, hx.cy, hx.ny⟩
theorem Ob4.zn {w B u0 u1 u2 u3 s x n d v} (h : Ob4 w B) (hx : Zn w s x n d v) : Zn ((((w.setCell ⟨B, 0, none⟩ u0).setCell ⟨B, 1, none⟩ u1).setCell ⟨B, 2, none⟩ u2).setCell ⟨B, 3, none⟩ u3) s x n d v := ⟨h.dn hx.dn, hx.sgn, hx.pos⟩
theorem Ob4.qn {w B u0 u1 u2 u3 s x n d y m g q} (h : Ob4 w B) (hx : Qn w s x n d y m g q) : Qn ((((w.setCell ⟨B, 0, none⟩ u0).setCell ⟨B, 1, none⟩ u1).setCell ⟨B, 2, none⟩ u2).setCell ⟨B, 3, none⟩ u3) s x n d y m g q := ⟨h.zn hx.num, h.dn hx.den⟩
theorem below_st4 {w0 w : World} {B : Nat} {u0 u1 u2 u3 : Value} (hw : Below w0.heap.size w0 w) (hB : w0.heap.size ≤ B) :
    Below w0.heap.size w0 ((((w.setCell ⟨B, 0, none⟩ u0).setCell ⟨B, 1, none⟩ u1).setCell ⟨B, 2, none⟩ u2).setCell ⟨B, 3, none⟩ u3) :=
  below_turned hw hw.size (((((Turned.refl w0.heap.size (B + 1) w).set (x := ⟨B, 0, none⟩) hB (by simp) _).set (x := ⟨B, 1, none⟩) hB (by simp) _).set (x := ⟨B, 2, none⟩) hB (by simp) _).set (x := ⟨B, 3, none⟩) hB (by simp) _) (Nat.le_refl _)

theorem kRnd {L w s x n c f y m d g q} (h : Rn L w s x n c f y m d g q) : Rn L w.drew s x n c f y m d g q := ⟨kWd h.num, kWd h.den, h.ln, h.ld⟩
theorem kRnb {L w w' s x n c f y m d g q} (hb : Below w.heap.size w w') (h : Rn L w s x n c f y m d g q) : Rn L w' s x n c f y m d g q := h.below hb
end Go.Proofs.YthofcgpghbaccaaGreat
namespace Go.Proofs.YthofcgpghbaccaaGreat
open Go.RowKit

theorem rOf0_c (W : World) : Calls Tryz.prog 52 #[.int .i64 0] W fun e w' => RatAns 4 W w' e 0 := by
  have h := rOf_c (w := W) (z := 0) (by decide) (by decide)
  simpa using h
theorem last_bel {L w ao k col T} {v : List (Int × Rat)} {z : Int} (hl : Tl w ao k col T) (ht : Tf L w ao v) (hk : v.length = k) (hb : ∀ (j : Nat) (a : Int) (q : Rat), v[j]? = some (a, q) → a < z) : (decide (k = 0) || decide (col (k - 1) < z)) = true := by
  by_cases h0 : k = 0
  · simp [h0]
  · obtain ⟨⟨a, q⟩, haq⟩ : ∃ t, v[k - 1]? = some t := ⟨_, List.getElem?_eq_getElem (by omega)⟩
    have ha1 := hb _ a q haq
    obtain ⟨b, o, _, hav, hc, _⟩ := ht _ a q haq
    obtain ⟨b2, o2, hav2, hc2, _⟩ := hl (k - 1) (by omega)
    have e1 := hc.x0; have e2 := hc2.x0
    rw [hav] at hav2
    obtain ⟨rfl, rfl⟩ : b = b2 ∧ o = o2 := by simpa using hav2
    rw [e1] at e2
    have e3 : a = col (k - 1) := by simpa using e2
    rw [← e3]; simp [ha1]
theorem Tf.mono {L L' w ao v} (h : Tf L w ao v) (hL : L ≤ L') : Tf L' w ao v := fun j a q hj => by
  obtain ⟨b, o, t, e, h1, h2⟩ := h j a q hj
  exact ⟨b, o, t, e, h1, h2.mono hL⟩
theorem Rf.mono {L L' w ao p} (h : Rf L w ao p) (hL : L ≤ L') : Rf L' w ao p := fun j q hj => by
  obtain ⟨b, o, t, e, h1, h2⟩ := h j q hj
  exact ⟨b, o, t, e, h1, h2.mono hL⟩

theorem vForm_v {w : World} {L : Nat} {ao : Option Addr} {k cap : Nat} {v : List (Int × Rat)} (h : Tf L w ao v) (hv : Vf v) (hk : v.length = k) (hk2 : k ≤ 1048576) (hL : L ≤ 65536) :
    Calls Tryz.prog 16 #[.slice ao k cap] w fun e w' => e = .returned (.bool true) ∧ Below w.heap.size w w' := by
  obtain ⟨col, T, h1, h2, _⟩ := tf_tl h hv hL
  rw [hk] at h1 h2
  have h3 := vForm_c (cap := cap) h1 hk2
  rw [h2] at h3
  exact h3
theorem vPlus_v {w : World} {L : Nat} {av aw : Option Addr} {k k' cv cw : Nat} {s : Bool} {x : Option Addr} {n c : Nat} {f : Nat → Int} {y : Option Addr} {m d : Nat} {g : Nat → Int} {v v' : List (Int × Rat)} {r : Rat}
    (hv : Tf L w av v) (vv : Vf v) (hw : Tf L w aw v') (vw : Vf v') (hr : Rn L w s x n c f y m d g r) (hk : v.length = k) (hk' : v'.length = k') (hs : k + k' ≤ 100000) (hcv : k ≤ cv ∧ cv ≤ 9223372036854775807) (hcw : k' ≤ cw ∧ cw ≤ 9223372036854775807) (hL : L ≤ 40000) :
    Calls Tryz.prog 11 #[.slice av k cv, .agg #[.bool s, .slice x n c, .slice y m d], .slice aw k' cw] w fun e w' => ∃ ao cap, e = .returned (.tuple #[.slice ao (mg r v v').length cap, .int .i64 0]) ∧ Below w.heap.size w w' ∧ (mg r v v').length ≤ cap ∧ cap ≤ 9223372036854775807 ∧ Hid (Tf (4 * L + 3) w' ao (mg r v v')) := by
  obtain ⟨col, T, h1, h2, _⟩ := tf_tl hv vv (by omega)
  obtain ⟨col', T', h1', h2', _⟩ := tf_tl hw vw (by omega)
  rw [hk] at h1 h2
  rw [hk'] at h1' h2'
  obtain ⟨hn, hf⟩ := Rn.nm (t := ⟨s, x, n, c, f, y, m, d, g⟩) hr (by omega)
  refine (vPlus_c (v := v) (v' := v') (r := r) h1 h1' hn hs hcv hcw hL (fun _ => ⟨hk, hv⟩) (fun _ => ⟨hk', hw⟩) (fun _ => hr)).mono ?_
  rintro e w' ⟨ao, j, cap, er, rfl, hb, ho⟩
  rcases ho with ⟨hp, _⟩ | ⟨_, rfl, rfl, h5, h6, _, h8⟩
  · rw [h2, h2', hf] at hp; cases hp
  · exact ⟨ao, cap, rfl, hb, h5, h6, h8⟩
theorem vDot_v {w : World} {L : Nat} {av ax : Option Addr} {k kx cv cx : Nat} {v : List (Int × Rat)} {p : List Rat}
    (hv : Tf L w av v) (vv : Vf v) (hx : Rf L w ax p) (hk : v.length = k) (hkx : p.length = kx) (hk2 : k ≤ 64) (hkx2 : kx ≤ 64) (hL : L ≤ 200) (hbel : ∀ (j : Nat) (a : Int) (q : Rat), v[j]? = some (a, q) → a < kx) :
    Calls Tryz.prog 27 #[.slice av k cv, .slice ax kx cx] w fun e w' => RatTup 40000 w w' e (dsum p v 0) := by
  obtain ⟨col, T, h1, h2, _⟩ := tf_tl hv vv (by omega)
  obtain ⟨X, h3, h4⟩ := rf_rl hx (by omega)
  rw [hk] at h1 h2
  rw [hkx] at h3 h4
  exact vDot_c h1 h3 hk2 hkx2 hL h2 h4 hk hkx hv hx (fun j a q h => ⟨(vv.nz j a q h).2, hbel j a q h⟩) rOf0_c
theorem vDense_v {w : World} {L : Nat} {av : Option Addr} {k n cv : Nat} {v : List (Int × Rat)}
    (hv : Tf L w av v) (vv : Vf v) (hk : v.length = k) (hk2 : k ≤ 1048576) (hn : n ≤ 64) (hL : L ≤ 65536) (hL4 : 4 ≤ L) (hbel : ∀ (j : Nat) (a : Int) (q : Rat), v[j]? = some (a, q) → a < n) :
    Calls Tryz.prog 23 #[.slice av k cv, .int .i64 n] w fun e w' => ∃ ao, e = .returned (.tuple #[.slice ao n n, .int .i64 0]) ∧ Below w.heap.size w w' ∧ Hid (Rf L w' ao (dense n v)) := by
  obtain ⟨col, T, h1, h2, _⟩ := tf_tl hv vv (by omega)
  rw [hk] at h1 h2
  refine (vDense_c (v := v) h1 hk2 (by omega) hL4 (fun _ => ⟨hk, hv, vv⟩) rOf0_c).mono ?_
  rintro e w' ⟨ao, n', cap, er, rfl, hb, ho⟩
  have hlb := last_bel h1 hv hk hbel
  rcases ho with ⟨h3, _⟩ | ⟨_, _, h3, _⟩ | ⟨_, _, _, h3, _⟩ | ⟨_, _, _, _, rfl, h3, hcap, h4, h5⟩
  · omega
  · rw [h2] at h3; cases h3
  · rw [hlb] at h3; cases h3
  · obtain rfl : n' = n := by omega
    subst hcap
    exact ⟨ao, rfl, hb, h5⟩
theorem vSparse_v {w : World} {L : Nat} {ax : Option Addr} {k cx : Nat} {p : List Rat} (hx : Rf L w ax p) (hk : p.length = k) (hk2 : k ≤ 64) (hL : L ≤ 40000) :
    Calls Tryz.prog 30 #[.slice ax k cx] w fun e w' => ∃ ao cap, e = .returned (.tuple #[.slice ao (spr p 0).length cap, .int .i64 0]) ∧ Below w.heap.size w w' ∧ (spr p 0).length ≤ cap ∧ cap ≤ 9223372036854775807 ∧ Hid (Tf L w' ao (spr p 0)) := by
  obtain ⟨X, h3, h4⟩ := rf_rl hx (by omega)
  rw [hk] at h3 h4
  refine (vSparse_c (p := p) h3 (by omega) hL (fun _ => ⟨hk, hx⟩)).mono ?_
  rintro e w' ⟨ao, j, cap, er, rfl, hb, ho⟩
  rcases ho with ⟨h5, _⟩ | ⟨_, h5, _⟩ | ⟨_, _, rfl, rfl, h6, h7, _, h8⟩
  · omega
  · rw [h4] at h5; cases h5
  · exact ⟨ao, cap, rfl, hb, h6, h7, h8⟩

/-- A new block of terms. -/
theorem tf_alloc {L : Nat} {w : World} (l : List (Int × Nm)) (vs : List (Int × Rat)) (h : ∀ (j : Nat) (a : Int) (q : Rat), vs[j]? = some (a, q) → ∃ t : Nm, l[j]? = some (a, t) ∧ Rn L w t.s t.x t.n t.c t.f t.y t.m t.d t.g q) :
    Tf L (w.alloc (.cells (tcells l).toArray 69)) (some ⟨w.heap.size, 0, none⟩) vs := fun j a q hj => by
  obtain ⟨t, h1, h2⟩ := h j a q hj
  have hc : ∀ i, i < 4 → (w.alloc (.cells (tcells l).toArray 69)).cell? ⟨w.heap.size, 0 + j * 4 + i, none⟩ = (tcell a t)[i]? := fun i hi => by
    rw [World.cell?_alloc_new, Nat.zero_add, List.getElem?_toArray]
    exact tcells_get h1 i hi
  exact ⟨w.heap.size, 0, t, rfl, ⟨hc 0 (by decide), hc 1 (by decide), hc 2 (by decide), hc 3 (by decide)⟩, h2.alloc _⟩
/-- The cells of numbers. -/
def rcell (t : Nm) : List Value := [.bool t.s, .slice t.x t.n t.c, .slice t.y t.m t.d]
def rcells (l : List Nm) : List Value := l.flatMap rcell
theorem rcells_get {l : List Nm} {j : Nat} {t : Nm} (h : l[j]? = some t) (i : Nat) (hi : i < 3) : (rcells l)[j * 3 + i]? = (rcell t)[i]? := by
  induction l generalizing j with
  | nil => simp at h
  | cons u l ih =>
    have e : rcells (u :: l) = rcell u ++ rcells l := by simp [rcells]
    rw [e]
    cases j with
    | zero =>
      simp at h; subst h
      rw [Nat.zero_mul, Nat.zero_add, List.getElem?_append_left (by show i < 3; exact hi)]
    | succ j =>
      rw [List.getElem?_append_right (by show 3 ≤ _; omega), show (j + 1) * 3 + i - (rcell u).length = j * 3 + i by show (j + 1) * 3 + i - 3 = _; omega]
      exact ih (by simpa using h)
theorem rf_alloc {L : Nat} {w : World} (l : List Nm) (p : List Rat) (h : ∀ (j : Nat) (q : Rat), p[j]? = some q → ∃ t : Nm, l[j]? = some t ∧ Rn L w t.s t.x t.n t.c t.f t.y t.m t.d t.g q) :
    Rf L (w.alloc (.cells (rcells l).toArray 25)) (some ⟨w.heap.size, 0, none⟩) p := fun j q hj => by
  obtain ⟨t, h1, h2⟩ := h j q hj
  have hc : ∀ i, i < 3 → (w.alloc (.cells (rcells l).toArray 25)).cell? ⟨w.heap.size, 0 + j * 3 + i, none⟩ = (rcell t)[i]? := fun i hi => by
    rw [World.cell?_alloc_new, Nat.zero_add, List.getElem?_toArray]
    exact rcells_get h1 i hi
  exact ⟨w.heap.size, 0, t, rfl, ⟨hc 0 (by decide), hc 1 (by decide), hc 2 (by decide)⟩, h2.alloc _⟩

set_option maxRecDepth 100000 in
set_option maxHeartbeats 4000000 in
theorem term_c {w : World} {k z : Int} (h0 : -9223372036854775808 ≤ z) (h1 : z ≤ 9223372036854775807) :
    Calls Tryz.prog 37 #[.int .i64 k, .int .i64 z] w fun e w' => ∃ s x n c f y m d g, e = .returned (.agg #[.int .i64 k, .bool s, .slice x n c, .slice y m d]) ∧ Below w.heap.size w w' ∧ Hid (Rn 4 w' s x n c f y m d g (z : Rat)) := by
  have h2 := ob4_new w 69
  have h3 := below_alloc (Below.refl w.heap.size w) (.cells #[.int .i64 0, .bool false, .slice none 0 0, .slice none 0 0] 69)
  go_enter Tryz.func37, Tryz.ntmps37
  go_wp2_with fail
  generalize w.alloc (.cells #[.int .i64 0, .bool false, .slice none 0 0, .slice none 0 0] 69) = w1 at *
  have OB := hid h2; have HW := hid h3
  clear h2 h3
  refine (docOfQ_c h0 h1).mono ?_
  rintro e w2 ⟨s2, x2, n2, c2, f2, y2, m2, d2, g2, rfl, hb, hq⟩
  have HB2 := hid hb; have HQ := hid hq
  clear hb hq
  obtain ⟨hz, z0, z1, z2, z3, zf⟩ := OB.out.below HB2.out
  go_wp2
  exact bodyPost_ret (v := .agg #[.int .i64 k, .bool s2, .slice x2 n2 c2, .slice y2 m2 d2]) (by simp [results, Tryz.results37, go_sem, z0, z1, z2, z3]) rfl ⟨s2, x2, n2, c2, f2, y2, m2, d2, g2, rfl, below_st4 (HW.out.trans (HB2.out.mono HW.out.size)) (by omega), (OB.out.below HB2.out).rn HQ.out⟩
end Go.Proofs.YthofcgpghbaccaaGreat
namespace Go.Proofs.YthofcgpghbaccaaGreat
open Go.RowKit

theorem rSameEq_c {L L' w sa xa na ca fa ya ma da ga sb xb nb cb fb yb mb db gb q} (ha : Rn L w sa xa na ca fa ya ma da ga q) (hb : Rn L' w sb xb nb cb fb yb mb db gb q) (h1 : L ≤ 1048576) (h2 : L' ≤ 1048576) :
    Calls Tryz.prog 22 #[.agg #[.bool sa, .slice xa na ca, .slice ya ma da], .agg #[.bool sb, .slice xb nb cb, .slice yb mb db]] w fun e w' => e = .returned (.bool true) ∧ Below w.heap.size w w' := by
  have l1 := ha.ln; have l2 := ha.ld; have l3 := hb.ln; have l4 := hb.ld
  refine (rSame_c sa xa ya na ca ma da fa ga sb xb yb nb cb mb db fb gb w ha.num.rd ha.den.rd hb.num.rd hb.den.rd (by omega) (by omega) (by omega) (by omega)).mono ?_
  rintro e w' ⟨c, rfl, h3, h4⟩
  refine ⟨?_, h3⟩
  rw [h4.2 ((ha.inj hb).2 rfl)]

set_option maxRecDepth 100000 in
set_option maxHeartbeats 4000000 in
theorem samesEq_c {w : World} {L L' : Nat} {ao bo : Option Addr} {k ca cb : Nat} {p : List Rat} (ha : Rf L w ao p) (hb : Rf L' w bo p) (hk : p.length = k) (hk2 : k ≤ 1048576) (h1 : L ≤ 1048576) (h2 : L' ≤ 1048576) :
    Calls Tryz.prog 25 #[.slice ao k ca, .slice bo k cb] w fun e w' => e = .returned (.bool true) ∧ Below w.heap.size w w' := by
  have HA := hid ha; have HB := hid hb
  have hkk : (((k : Nat) : Int) != ((k : Nat) : Int)) = false := by simp
  clear ha hb
  go_enter Tryz.func25, Tryz.ntmps25
  go_wp2_with fail
  go_loopw [13] (fun t wr => ∃ (i : Nat), i ≤ k ∧ t = .int .i64 i ∧ Hid (Below w.heap.size w wr)) (fun t _ => k - (intOf t).toNat)
  case atStart => exact ⟨0, by omega, rfl, Below.refl _ _⟩
  case round =>
    obtain ⟨i, hi, rfl, HW⟩ := hrel
    by_cases hlt : i < k
    · obtain ⟨q, hq⟩ : ∃ q, p[i]? = some q := ⟨_, List.getElem?_eq_getElem (by omega)⟩
      obtain ⟨b, o, ⟨ts, tx, tn, tc, tf, ty, tm, td, tg⟩, rfl, hc, hr⟩ := (HA.out.below HW.out) i q hq
      obtain ⟨b', o', ⟨ss, sx, sn, sc, sf, sy, sm, sd, sg⟩, rfl, hc', hr'⟩ := (HB.out.below HW.out) i q hq
      obtain ⟨x0, x1, x2⟩ := hc
      obtain ⟨p0, p1, p2⟩ := hc'
      replace x0 : wr.cell? ⟨b, o + i * 3, none⟩ = some (.bool ts) := x0
      replace x1 : wr.cell? ⟨b, o + i * 3 + 1, none⟩ = some (.slice tx tn tc) := x1
      replace x2 : wr.cell? ⟨b, o + i * 3 + 2, none⟩ = some (.slice ty tm td) := x2
      replace p0 : wr.cell? ⟨b', o' + i * 3, none⟩ = some (.bool ss) := p0
      replace p1 : wr.cell? ⟨b', o' + i * 3 + 1, none⟩ = some (.slice sx sn sc) := p1
      replace p2 : wr.cell? ⟨b', o' + i * 3 + 2, none⟩ = some (.slice sy sm sd) := p2
      have CS : Hid (∀ W, Below wr.heap.size wr W → Calls Tryz.prog 22 #[.agg #[.bool ts, .slice tx tn tc, .slice ty tm td], .agg #[.bool ss, .slice sx sn sc, .slice sy sm sd]] W fun e w' => e = .returned (.bool true) ∧ Below W.heap.size W w') := fun W hW =>
        rSameEq_c (Rn.below hr hW) (Rn.below hr' hW) h1 h2
      have i2 : ((i : Nat) : Int) < ((k : Nat) : Int) := by omega
      clear hr hr' hq
      go_upto_region 6 with fail
      go_region_held3 (fun w' => w'.cell? ⟨b, o + i * 3, none⟩ = some (.bool ts) ∧ w'.cell? ⟨b, o + i * 3 + 1, none⟩ = some (.slice tx tn tc) ∧ w'.cell? ⟨b, o + i * 3 + 2, none⟩ = some (.slice ty tm td) ∧ w'.cell? ⟨b', o' + i * 3, none⟩ = some (.bool ss) ∧ w'.cell? ⟨b', o' + i * 3 + 1, none⟩ = some (.slice sx sn sc) ∧ w'.cell? ⟨b', o' + i * 3 + 2, none⟩ = some (.slice sy sm sd))
        (refine ⟨?_, ?_, ?_, ?_, ?_, ?_⟩ <;> repeat (with_reducible first | assumption | refine kCd ?_ | refine kCb (by assumption) ?_))
        ((go_at_call 22; with_reducible refine (CS.out _ (by repeat (with_reducible first | assumption | exact Below.refl _ _ | refine kBdn ?_ | refine Below.drew ?_))).mono ?_; rintro e w5 ⟨rfl, hb5⟩))
      all_goals
        (have HW5 : Hid (Below w.heap.size w w5) := hid (HW.out.trans (Below.mono (show Below wr.heap.size wr w5 by repeat (with_reducible first | assumption | exact Below.refl _ _ | refine kBdn ?_ | refine Below.drew ?_ | refine kBb (by assumption) ?_)) HW.out.size))
         clear x0 x1 x2 p0 p1 p2 CS hb5
         go_wp2
         go_roundw
         case rel => exact ⟨i + 1, by omega, by go_num, (by first | exact HW5.out | exact HW5.out.drew | exact below_drewN HW5.out _)⟩
         case measure => simp [intOf]; omega)
    · have i2 : ¬ (((i : Nat) : Int) < ((k : Nat) : Int)) := by omega
      go_wp2
      go_ret
      exact ⟨rfl, HW.out⟩

set_option maxRecDepth 100000 in
set_option maxHeartbeats 4000000 in
theorem vSameEq_c {w : World} {L L' : Nat} {ao bo : Option Addr} {k ca cb : Nat} {v : List (Int × Rat)} (ha : Tf L w ao v) (hb : Tf L' w bo v) (hk : v.length = k) (hk2 : k ≤ 1048576) (h1 : L ≤ 1048576) (h2 : L' ≤ 1048576) :
    Calls Tryz.prog 15 #[.slice ao k ca, .slice bo k cb] w fun e w' => e = .returned (.bool true) ∧ Below w.heap.size w w' := by
  have HA := hid ha; have HB := hid hb
  have hkk : (((k : Nat) : Int) != ((k : Nat) : Int)) = false := by simp
  clear ha hb
  go_enter Tryz.func15, Tryz.ntmps15
  go_wp2_with fail
  go_loopw [13] (fun t wr => ∃ (i : Nat), i ≤ k ∧ t = .int .i64 i ∧ Hid (Below w.heap.size w wr)) (fun t _ => k - (intOf t).toNat)
  case atStart => exact ⟨0, by omega, rfl, Below.refl _ _⟩
  case round =>
    obtain ⟨i, hi, rfl, HW⟩ := hrel
    by_cases hlt : i < k
    · obtain ⟨⟨a, q⟩, hq⟩ : ∃ t, v[i]? = some t := ⟨_, List.getElem?_eq_getElem (by omega)⟩
      obtain ⟨b, o, ⟨ts, tx, tn, tc, tf, ty, tm, td, tg⟩, rfl, hc, hr⟩ := (HA.out.below HW.out) i a q hq
      obtain ⟨b', o', ⟨ss, sx, sn, sc, sf, sy, sm, sd, sg⟩, rfl, hc', hr'⟩ := (HB.out.below HW.out) i a q hq
      obtain ⟨x0, x1, x2, x3⟩ := hc
      obtain ⟨p0, p1, p2, p3⟩ := hc'
      replace x0 : wr.cell? ⟨b, o + i * 4, none⟩ = some (.int .i64 a) := x0
      replace x1 : wr.cell? ⟨b, o + i * 4 + 1, none⟩ = some (.bool ts) := x1
      replace x2 : wr.cell? ⟨b, o + i * 4 + 2, none⟩ = some (.slice tx tn tc) := x2
      replace x3 : wr.cell? ⟨b, o + i * 4 + 3, none⟩ = some (.slice ty tm td) := x3
      replace p0 : wr.cell? ⟨b', o' + i * 4, none⟩ = some (.int .i64 a) := p0
      replace p1 : wr.cell? ⟨b', o' + i * 4 + 1, none⟩ = some (.bool ss) := p1
      replace p2 : wr.cell? ⟨b', o' + i * 4 + 2, none⟩ = some (.slice sx sn sc) := p2
      replace p3 : wr.cell? ⟨b', o' + i * 4 + 3, none⟩ = some (.slice sy sm sd) := p3
      have haa : (a != a) = false := by simp
      have CS : Hid (∀ W, Below wr.heap.size wr W → Calls Tryz.prog 22 #[.agg #[.bool ts, .slice tx tn tc, .slice ty tm td], .agg #[.bool ss, .slice sx sn sc, .slice sy sm sd]] W fun e w' => e = .returned (.bool true) ∧ Below W.heap.size W w') := fun W hW =>
        rSameEq_c (Rn.below hr hW) (Rn.below hr' hW) h1 h2
      have i2 : ((i : Nat) : Int) < ((k : Nat) : Int) := by omega
      clear hr hr' hq
      go_upto_region 6 with fail
      go_region_held3 (fun w' => w'.cell? ⟨b, o + i * 4, none⟩ = some (.int .i64 a) ∧ w'.cell? ⟨b, o + i * 4 + 1, none⟩ = some (.bool ts) ∧ w'.cell? ⟨b, o + i * 4 + 2, none⟩ = some (.slice tx tn tc) ∧ w'.cell? ⟨b, o + i * 4 + 3, none⟩ = some (.slice ty tm td) ∧ w'.cell? ⟨b', o' + i * 4, none⟩ = some (.int .i64 a) ∧ w'.cell? ⟨b', o' + i * 4 + 1, none⟩ = some (.bool ss) ∧ w'.cell? ⟨b', o' + i * 4 + 2, none⟩ = some (.slice sx sn sc) ∧ w'.cell? ⟨b', o' + i * 4 + 3, none⟩ = some (.slice sy sm sd))
        (refine ⟨?_, ?_, ?_, ?_, ?_, ?_, ?_, ?_⟩ <;> repeat (with_reducible first | assumption | refine kCd ?_ | refine kCb (by assumption) ?_))
        ((go_at_call 22; with_reducible refine (CS.out _ (by repeat (with_reducible first | assumption | exact Below.refl _ _ | refine kBdn ?_ | refine Below.drew ?_))).mono ?_; rintro e w5 ⟨rfl, hb5⟩))
      all_goals
        (have HW5 : Hid (Below w.heap.size w w5) := hid (HW.out.trans (Below.mono (show Below wr.heap.size wr w5 by repeat (with_reducible first | assumption | exact Below.refl _ _ | refine kBdn ?_ | refine Below.drew ?_ | refine kBb (by assumption) ?_)) HW.out.size))
         clear x0 x1 x2 x3 p0 p1 p2 p3 CS hb5
         go_wp2
         go_roundw
         case rel => exact ⟨i + 1, by omega, by go_num, (by first | exact HW5.out | exact HW5.out.drew | exact below_drewN HW5.out _)⟩
         case measure => simp [intOf]; omega)
    · have i2 : ¬ (((i : Nat) : Int) < ((k : Nat) : Int)) := by omega
      go_wp2
      go_ret
      exact ⟨rfl, HW.out⟩
end Go.Proofs.YthofcgpghbaccaaGreat

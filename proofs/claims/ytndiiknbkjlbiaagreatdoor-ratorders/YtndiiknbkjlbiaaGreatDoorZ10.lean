/-
  Walks of the document's reference for whole: Divide. Walks of package rat's clone, Copy and Neg. The walk of package rat's call Cmp. Walks of the document's reference for rat: Add, Sub, Cmp. Walks of rat's Sign and Cmp, whatever they are handed, and of the document's: DocSign, DocCmp.
-/
import Derived.Test.YtndiiknbkjlbiaaGreatDoorZ9
import Derived.Test.YtndiiknbkjlbiaaGreatDoorZ8
namespace Go.Proofs.YtndiiknbkjlbiaaGreatDoor
open Go.RowKit

/-- A box that holds a sign and a list, and may be written. -/
structure X2 (w : World) (B : Nat) (s : Bool) (x : Option Addr) (n c : Nat) : Prop where
  z : B < w.heap.size
  c0 : w.cell? ⟨B, 0, none⟩ = some (.bool s)
  c1 : w.cell? ⟨B, 1, none⟩ = some (.slice x n c)
  zf : ∀ o, w.frozen? ⟨B, o, none⟩ = false
theorem X2.below {w w' B s x n c} (h : X2 w B s x n c) (hb : Below w.heap.size w w') : X2 w' B s x n c := by
  obtain ⟨h1, h2⟩ := bcell hb
  exact ⟨Nat.lt_of_lt_of_le h.z hb.size, kCb hb h.c0, kCb hb h.c1, fun o => (h2 _ _ h.z).trans (h.zf o)⟩
theorem x2_new (w : World) (t : TypeId) (s : Bool) (x : Option Addr) (n c : Nat) : X2 (w.alloc (.cells #[.bool s, .slice x n c] t)) w.heap.size s x n c := by
  refine ⟨by simp, by simp [go_sem], by simp [go_sem], fun o => ?_⟩
  have e := heap_alloc_new w (.cells #[.bool s, .slice x n c] t)
  simp only [World.frozen?, e]; simp
/-- A number stored into such a box. -/
theorem X2.put {w B s x n c} (h : X2 w B s x n c) (r : Bool) (y : Option Addr) (m d : Nat) : X2 ((w.setCell ⟨B, 0, none⟩ (.bool r)).setCell ⟨B, 1, none⟩ (.slice y m d)) B r y m d :=
  ⟨by simpa [World.setCell] using h.z, kCo (by decide) (kCe (kI0 h.c0)), kCe (kIs (kI0 h.c1)), fun o => kFs (kFs (h.zf o))⟩
theorem X2.dn {w B s x n c u0 u1 y m d V} (h : X2 w B s x n c) (hx : Dn w y m d V) : Dn ((w.setCell ⟨B, 0, none⟩ u0).setCell ⟨B, 1, none⟩ u1) y m d V :=
  ⟨rd_setne (cell_off (by decide) h.c1) (fun i h => by cases h) (rd_setne h.c0 (fun i h => by cases h) hx.rd), hx.dg, hx.fm, hx.val⟩
theorem X2.zn {w B s x n c u0 u1 t y m d v} (h : X2 w B s x n c) (hx : Zn w t y m d v) : Zn ((w.setCell ⟨B, 0, none⟩ u0).setCell ⟨B, 1, none⟩ u1) t y m d v := ⟨h.dn hx.dn, hx.sgn, hx.pos⟩
theorem X2.drew {w B s x n c} (h : X2 w B s x n c) : X2 w.drew B s x n c := ⟨h.z, h.c0, h.c1, h.zf⟩
theorem kX2b {w w' B s x n c} (hb : Below w.heap.size w w') (h : X2 w B s x n c) : X2 w' B s x n c := h.below hb
theorem Ob2.x2 {w B} (h : Ob2 w B) : X2 w B false none 0 0 := ⟨h.z, h.z0, h.z1, h.zf⟩
theorem Ob2.far {w B B' u0 u1} (h : Ob2 w B) (hB : B' ≠ B) : Ob2 ((w.setCell ⟨B', 0, none⟩ u0).setCell ⟨B', 1, none⟩ u1) B := ⟨by simpa [World.setCell] using h.z, kCs hB (kCs hB h.z0), kCs hB (kCs hB h.z1), fun o => kFs (kFs (h.zf o))⟩
theorem Bx.far {w B B' u0 u1 s x n c} (h : Bx w B s x n c) (hB : B' ≠ B) : Bx ((w.setCell ⟨B', 0, none⟩ u0).setCell ⟨B', 1, none⟩ u1) B s x n c := by
  obtain ⟨z, c0, c1⟩ := h
  exact ⟨by simpa [World.setCell] using z, kCs hB (kCs hB c0), kCs hB (kCs hB c1)⟩
theorem flr_same {u v : Int} {s t : Bool} (hst : s = t) (hu : u = sg s u.natAbs) (hv : v = sg t v.natAbs) (h0 : v ≠ 0) : Flr u v (sg false (u.natAbs / v.natAbs)) (u - sg false (u.natAbs / v.natAbs) * v) := by
  subst hst
  refine ⟨by omega, ?_⟩
  have e := Nat.div_add_mod u.natAbs v.natAbs
  have l := Nat.mod_lt u.natAbs (show 0 < v.natAbs by omega)
  have e' : (v.natAbs : Int) * (u.natAbs / v.natAbs : Nat) + (u.natAbs % v.natAbs : Nat) = u.natAbs := by exact_mod_cast e
  generalize u.natAbs / v.natAbs = Q at *
  generalize u.natAbs % v.natAbs = R at *
  have hs : sg false Q = (Q : Int) := rfl
  rw [hs]
  cases s
  · have e1 : u = u.natAbs := hu
    have e2 : v = v.natAbs := hv
    have e3 : u - Q * v = R := by rw [← e2, ← e1] at e'; rw [← e', Int.mul_comm]; omega
    rw [e3]; left; omega
  · have e1 : u = -(u.natAbs : Int) := hu
    have e2 : v = -(v.natAbs : Int) := hv
    have e3 : u - Q * v = -(R : Int) := by
      have : (Q : Int) * v = -((v.natAbs : Int) * Q) := by
        have k : (Q : Int) * v = (Q : Int) * -(v.natAbs : Int) := congrArg (fun z => (Q : Int) * z) e2
        rw [k, Int.mul_neg, Int.mul_comm]
      omega
    rw [e3]; right; omega
theorem flr_even {u v : Int} {s t : Bool} (hst : ¬ s = t) (hu : u = sg s u.natAbs) (hv : v = sg t v.natAbs) (h0 : v ≠ 0) (hR : u.natAbs % v.natAbs = 0) : Flr u v (sg true (u.natAbs / v.natAbs)) (u - sg true (u.natAbs / v.natAbs) * v) := by
  refine ⟨by omega, ?_⟩
  have e := Nat.div_add_mod u.natAbs v.natAbs
  rw [hR] at e
  have e' : (v.natAbs : Int) * (u.natAbs / v.natAbs : Nat) = u.natAbs := by exact_mod_cast e
  generalize u.natAbs / v.natAbs = Q at *
  have hs : sg true Q = -(Q : Int) := rfl
  rw [hs]
  have e3 : u - -(Q : Int) * v = 0 := by
    cases s <;> cases t
    · exact absurd rfl hst
    · have e1 : u = u.natAbs := hu
      have e2 : v = -(v.natAbs : Int) := hv
      have : -(Q : Int) * v = (v.natAbs : Int) * Q := by
        have k : -(Q : Int) * v = -(Q : Int) * -(v.natAbs : Int) := congrArg (fun z => -(Q : Int) * z) e2
        rw [k, Int.neg_mul_neg, Int.mul_comm]
      omega
    · have e1 : u = -(u.natAbs : Int) := hu
      have e2 : v = v.natAbs := hv
      have : -(Q : Int) * v = -((v.natAbs : Int) * Q) := by rw [Int.neg_mul, Int.mul_comm, ← e2]
      omega
    · exact absurd rfl hst
  rw [e3]; omega
theorem flr_rest {u v : Int} {s t : Bool} (hst : ¬ s = t) (hu : u = sg s u.natAbs) (hv : v = sg t v.natAbs) (h0 : v ≠ 0) (hR : 0 < u.natAbs % v.natAbs) : Flr u v (sg true (u.natAbs / v.natAbs) - 1) (u - (sg true (u.natAbs / v.natAbs) - 1) * v) := by
  refine ⟨by omega, ?_⟩
  have e := Nat.div_add_mod u.natAbs v.natAbs
  have l := Nat.mod_lt u.natAbs (show 0 < v.natAbs by omega)
  have e' : (v.natAbs : Int) * (u.natAbs / v.natAbs : Nat) + (u.natAbs % v.natAbs : Nat) = u.natAbs := by exact_mod_cast e
  generalize u.natAbs / v.natAbs = Q at *
  generalize u.natAbs % v.natAbs = R at *
  have hs : sg true Q = -(Q : Int) := rfl
  rw [hs, Int.sub_mul, Int.one_mul]
  cases s <;> cases t
  · exact absurd rfl hst
  · have e1 : u = u.natAbs := hu
    have e2 : v = -(v.natAbs : Int) := hv
    have : -(Q : Int) * v = (v.natAbs : Int) * Q := by
      have k : -(Q : Int) * v = -(Q : Int) * -(v.natAbs : Int) := congrArg (fun z => -(Q : Int) * z) e2
      rw [k, Int.neg_mul_neg, Int.mul_comm]
    rw [this]; omega
  · have e1 : u = -(u.natAbs : Int) := hu
    have e2 : v = v.natAbs := hv
    have : -(Q : Int) * v = -((v.natAbs : Int) * Q) := by rw [Int.neg_mul, Int.mul_comm, ← e2]
    rw [this]; omega
  · exact absurd rfl hst
theorem zboxes4 {w : World} (sa : Bool) (xa : Option Addr) (na ca : Nat) (sb : Bool) (xb : Option Addr) (nb cb : Nat) (t : TypeId) :
    Bx ((((w.alloc (.cells #[.bool sa, .slice xa na ca] t)).alloc (.cells #[.bool sb, .slice xb nb cb] t)).alloc (.cells #[.bool false, .slice none 0 0] t)).alloc (.cells #[.bool false, .slice none 0 0] t)) w.heap.size sa xa na ca ∧ Bx ((((w.alloc (.cells #[.bool sa, .slice xa na ca] t)).alloc (.cells #[.bool sb, .slice xb nb cb] t)).alloc (.cells #[.bool false, .slice none 0 0] t)).alloc (.cells #[.bool false, .slice none 0 0] t)) (w.heap.size + 1) sb xb nb cb ∧ Ob2 ((((w.alloc (.cells #[.bool sa, .slice xa na ca] t)).alloc (.cells #[.bool sb, .slice xb nb cb] t)).alloc (.cells #[.bool false, .slice none 0 0] t)).alloc (.cells #[.bool false, .slice none 0 0] t)) (w.heap.size + 1 + 1) ∧ Ob2 ((((w.alloc (.cells #[.bool sa, .slice xa na ca] t)).alloc (.cells #[.bool sb, .slice xb nb cb] t)).alloc (.cells #[.bool false, .slice none 0 0] t)).alloc (.cells #[.bool false, .slice none 0 0] t)) (w.heap.size + 1 + 1 + 1) ∧ Below w.heap.size w ((((w.alloc (.cells #[.bool sa, .slice xa na ca] t)).alloc (.cells #[.bool sb, .slice xb nb cb] t)).alloc (.cells #[.bool false, .slice none 0 0] t)).alloc (.cells #[.bool false, .slice none 0 0] t)) := by
  obtain ⟨h1, h2, h3, h4⟩ := zboxes (w := w) sa xa na ca sb xb nb cb t
  have h5 := ob2_new (((w.alloc (.cells #[.bool sa, .slice xa na ca] t)).alloc (.cells #[.bool sb, .slice xb nb cb] t)).alloc (.cells #[.bool false, .slice none 0 0] t)) t
  rw [size_alloc1, size_alloc1, size_alloc1] at h5
  exact ⟨h1.alloc _, h2.alloc _, h3.alloc _, h5, below_alloc h4 _⟩
theorem zInt1_c {w : World} : Calls Tryz.prog 81 #[.int .i64 1] w fun e w' => ∃ s x n c d, e = .returned (.agg #[.bool s, .slice x n c]) ∧ Below w.heap.size w w' ∧ Hid (n ≤ 2 ∧ Zn w' s x n d 1) := by
  refine (zInt_c 1 w (by decide) (by decide)).mono ?_
  rintro e w' ⟨s, x, n, c, d, rfl, h⟩
  have h0 := vd_nonneg h.dg
  have hv := h.val
  cases s
  · have hv' : vd d n = 1 := hv
    exact ⟨false, x, n, c, d, rfl, h.bel, h.le, ⟨h.rd, h.dg, h.fm, hv'⟩, rfl, h.sgn⟩
  · have hv' : - vd d n = 1 := hv
    omega
theorem zSubE_c {w : World} {sa : Bool} {xa : Option Addr} {na ca : Nat} {da : Nat → Int} {sb : Bool} {xb : Option Addr} {nb cb : Nat} {db : Nat → Int} {u v : Int} (ha : Zn w sa xa na da u) (hb : Zn w sb xb nb db v) (hn : na ≤ 4096) (hm : nb ≤ 4096) :
    Calls Tryz.prog 104 #[.agg #[.bool sa, .slice xa na ca], .agg #[.bool sb, .slice xb nb cb]] w fun e w' => ∃ s x n c d, e = .returned (.agg #[.bool s, .slice x n c]) ∧ Below w.heap.size w w' ∧ Hid (n ≤ na + nb + 1 ∧ Zn w' s x n d (u - v)) :=
  (zSub_c ha hb hn hm).mono (fun _ _ ⟨s, x, n, c, d, h1, h2, h3, h4⟩ => ⟨s, x, n, c, d, h1, h2, h3, h4⟩)
theorem zMulE_c {w : World} {sa : Bool} {xa : Option Addr} {na ca : Nat} {da : Nat → Int} {sb : Bool} {xb : Option Addr} {nb cb : Nat} {db : Nat → Int} {u v : Int} (ha : Zn w sa xa na da u) (hb : Zn w sb xb nb db v) (hn : na ≤ 4096) (hm : nb ≤ 4096) :
    Calls Tryz.prog 87 #[.agg #[.bool sa, .slice xa na ca], .agg #[.bool sb, .slice xb nb cb]] w fun e w' => ∃ s x n c d, e = .returned (.agg #[.bool s, .slice x n c]) ∧ Below w.heap.size w w' ∧ Hid (n ≤ na + nb ∧ Zn w' s x n d (u * v)) :=
  (zMul_c ha hb hn hm).mono (fun _ _ ⟨s, x, n, c, d, h1, h2, h3, h4⟩ => ⟨s, x, n, c, d, h1, h2, h3, h4⟩)

set_option maxRecDepth 100000 in
set_option maxHeartbeats 8000000 in
theorem zDivide_c {w : World} {sa : Bool} {xa : Option Addr} {na ca : Nat} {da : Nat → Int} {sb : Bool} {xb : Option Addr} {nb cb : Nat} {db : Nat → Int} {u v : Int} (ha : Zn w sa xa na da u) (hb : Zn w sb xb nb db v) (hn : na ≤ 1000) (hm : nb ≤ 1000) (hv0 : v ≠ 0) :
    Calls Tryz.prog 68 #[.agg #[.bool sa, .slice xa na ca], .agg #[.bool sb, .slice xb nb cb]] w fun e w' => ∃ s x n c d t y m c' g q r, e = .returned (.tuple #[.agg #[.bool s, .slice x n c], .agg #[.bool t, .slice y m c']]) ∧ Below w.heap.size w w' ∧ Hid (n ≤ 8192 ∧ m ≤ 8192 ∧ Zn w' s x n d q ∧ Zn w' t y m g r ∧ Flr u v q r) := by
  obtain ⟨ba, bb, ob4, ob5, hw⟩ := zboxes4 (w := w) sa xa na ca sb xb nb cb 70
  have h1 := (((ha.alloc (.cells #[.bool sa, .slice xa na ca] 70)).alloc (.cells #[.bool sb, .slice xb nb cb] 70)).alloc (.cells #[.bool false, .slice none 0 0] 70)).alloc (.cells #[.bool false, .slice none 0 0] 70)
  have h2 := (((hb.alloc (.cells #[.bool sa, .slice xa na ca] 70)).alloc (.cells #[.bool sb, .slice xb nb cb] 70)).alloc (.cells #[.bool false, .slice none 0 0] 70)).alloc (.cells #[.bool false, .slice none 0 0] 70)
  have hsz : ((((w.alloc (.cells #[.bool sa, .slice xa na ca] 70)).alloc (.cells #[.bool sb, .slice xb nb cb] 70)).alloc (.cells #[.bool false, .slice none 0 0] 70)).alloc (.cells #[.bool false, .slice none 0 0] 70)).heap.size = w.heap.size + 1 + 1 + 1 + 1 := by rw [size_alloc1, size_alloc1, size_alloc1, size_alloc1]
  clear ha hb
  go_enter Tryz.func68, Tryz.ntmps68
  go_wp2_with fail
  generalize (((w.alloc (.cells #[.bool sa, .slice xa na ca] 70)).alloc (.cells #[.bool sb, .slice xb nb cb] 70)).alloc (.cells #[.bool false, .slice none 0 0] 70)).alloc (.cells #[.bool false, .slice none 0 0] 70) = w1 at *
  have HA := hid h1; have HB := hid h2; have HW := hid hw; have HV0 := hid hv0; have BA := hid ba; have BB := hid bb; have O4 := hid ob4; have O5 := hid ob5
  clear h1 h2 hw ba bb ob4 ob5
  refine (rdiv_c HA.out.dn HB.out.dn (by omega) (by omega) (by have := HV0.out; omega)).mono ?_
  rintro e w2 ⟨zq, kq, cq, dq, zr, kr, cr, dr, rfl, hb2, H2⟩
  have HB2 := hid hb2
  have hkq := H2.out.1; have hkr := H2.out.2.1
  have hsz2 := hb2.size
  clear hb2 hv0
  obtain ⟨za, a0, a1⟩ := BA.out.below HB2.out
  obtain ⟨zb, b0, b1⟩ := BB.out.below HB2.out
  cases hse : (sa == sb)
  · have HS := hid (show ¬ sa = sb by intro h; subst h; simp at hse)
    by_cases hk0 : kr = 0
    · subst hk0
      have hR0 := H2.out.2.2.2.zero
      have HFl := hid (flr_even HS.out HA.out.sgn HB.out.sgn HV0.out hR0)
      have hkd : decide ((0 : Int) < ((0 : Nat) : Int)) = false := by simp
      clear hR0
      go_wp2_with fail
      refine (mkZ_c (by omega)).mono ?_
      rintro e w3 ⟨r3, rfl, hb3, HR3⟩
      have HB3 := hid (HB2.out.trans (hb3.mono HB2.out.size))
      have HX3 := hid (Zn.of (H2.out.2.2.1.below hb3) HR3.out)
      have hsz3 := HB3.out.size
      clear hb3 HR3 a0 a1 b0 b1 za zb
      obtain ⟨za, a0, a1⟩ := BA.out.below HB3.out
      obtain ⟨zb, b0, b1⟩ := BB.out.below HB3.out
      have hz0 : w.heap.size < w3.heap.size := by omega
      have hz1 : w.heap.size + 1 < w3.heap.size := by omega
      go_wp2_with fail
      have hX8 := x2_new w3 70 r3 zq kq cq
      have h8 := HX3.out.alloc (.cells #[.bool r3, .slice zq kq cq] 70)
      have hb8 := below_alloc HB3.out (.cells #[.bool r3, .slice zq kq cq] 70)
      have hB8 : w.heap.size + 1 + 1 + 1 < w3.heap.size := by omega
      generalize w3.alloc (.cells #[.bool r3, .slice zq kq cq] 70) = w4 at *
      generalize w3.heap.size = B8 at *
      have HB4 := hid hb8; have X8 := hid hX8; have HX := hid h8
      have BA4 := hid (BA.out.below HB4.out); have BB4 := hid (BB.out.below HB4.out); have O44 := hid (O4.out.below HB4.out); have O54 := hid (O5.out.below HB4.out)
      have hkx : kq ≤ 1100 := by omega
      clear hX8 h8 hb8 a0 a1 b0 b1 za zb HX3 HB3
      obtain ⟨z8, x0, x1, xf⟩ := X8.out
      obtain ⟨za, a0, a1⟩ := BA4.out
      obtain ⟨zb, b0, b1⟩ := BB4.out
      obtain ⟨hz4, c0, c1, cf⟩ := O44.out
      obtain ⟨hz5, d0, d1, df⟩ := O54.out
      have C3 : Hid (∀ W, Below w4.heap.size w4 W → Calls Tryz.prog 87 #[.agg #[.bool r3, .slice zq kq cq], .agg #[.bool sb, .slice xb nb cb]] W fun e w' => ∃ s x n c d, e = .returned (.agg #[.bool s, .slice x n c]) ∧ Below W.heap.size W w' ∧ Hid (n ≤ kq + nb ∧ Zn w' s x n d ((sg true (u.natAbs / v.natAbs)) * v))) := fun W hW => zMulE_c (HX.out.below hW) ((HB.out.below HB4.out).below hW) (by omega) (by omega)
      have C4 : Hid (∀ (W : World) (s : Bool) (x : Option Addr) (n c : Nat) (d : Nat → Int), Below w4.heap.size w4 W → n ≤ kq + nb → Zn W s x n d ((sg true (u.natAbs / v.natAbs)) * v) → Calls Tryz.prog 104 #[.agg #[.bool sa, .slice xa na ca], .agg #[.bool s, .slice x n c]] W fun e w' => ∃ s x n c d, e = .returned (.agg #[.bool s, .slice x n c]) ∧ Below W.heap.size W w' ∧ Hid (n ≤ 8192 ∧ Zn w' s x n d (u - (sg true (u.natAbs / v.natAbs)) * v))) := fun W s x n c d hW hn2 h2 => (zSubE_c ((HA.out.below HB4.out).below hW) h2 (by omega) (by omega)).mono (fun e w' ⟨s, x, n, c, d, h1, h2, h3, h4⟩ => ⟨s, x, n, c, d, h1, h2, by omega, h4⟩)
      go_region_held3 (fun w' => w'.cell? ⟨w.heap.size, 0, none⟩ = some (.bool sa) ∧ w'.cell? ⟨w.heap.size, 1, none⟩ = some (.slice xa na ca) ∧ w'.cell? ⟨w.heap.size + 1, 0, none⟩ = some (.bool sb) ∧ w'.cell? ⟨w.heap.size + 1, 1, none⟩ = some (.slice xb nb cb) ∧ w'.cell? ⟨B8, 0, none⟩ = some (.bool r3) ∧ w'.cell? ⟨B8, 1, none⟩ = some (.slice zq kq cq) ∧ (w'.cell? ⟨w.heap.size + 1 + 1, 0, none⟩).isSome = true ∧ (w'.cell? ⟨w.heap.size + 1 + 1, 1, none⟩).isSome = true ∧ (w'.cell? ⟨w.heap.size + 1 + 1 + 1, 0, none⟩).isSome = true ∧ (w'.cell? ⟨w.heap.size + 1 + 1 + 1, 1, none⟩).isSome = true ∧ w'.frozen? ⟨w.heap.size + 1 + 1, 0, none⟩ = false ∧ w'.frozen? ⟨w.heap.size + 1 + 1, 1, none⟩ = false ∧ w'.frozen? ⟨w.heap.size + 1 + 1 + 1, 0, none⟩ = false ∧ w'.frozen? ⟨w.heap.size + 1 + 1 + 1, 1, none⟩ = false)
        (refine ⟨?_, ?_, ?_, ?_, ?_, ?_, ?_, ?_, ?_, ?_, ?_, ?_, ?_, ?_⟩ <;> repeat (with_reducible first | assumption | exact cf _ | exact df _ | exact tf _ | exact sf _ | exact uf _ | exact pf _ | exact kI0 c0 | exact kI0 c1 | exact kI0 d0 | exact kI0 d1 | exact kI0 t0 | exact kI0 t1 | exact kI0 s0 | exact kI0 s1 | exact kI0 u0 | exact kI0 u1 | exact kI0 p0 | exact kI0 p1 | refine kCd ?_ | refine kId ?_ | refine kFd ?_ | refine kCs (by simp only [ne_eq]; omega) ?_ | refine kIs ?_ | refine kFs ?_ | refine kCb (by assumption) ?_ | refine kIb (by assumption) ?_))
        (first
          | (go_at_call 87; with_reducible refine (C3.out _ (by repeat (with_reducible first | assumption | exact Below.refl _ _ | refine Below.drew ?_ | refine kBa ?_ | refine kBb (by assumption) ?_))).mono ?_; rintro e v7 ⟨sm, xm, nm, cm, dm, rfl, hv7, HM⟩; have TA : Ob2 v7 (w.heap.size + 1 + 1) := (by repeat (with_reducible first | exact O44.out | exact TA | exact TC | refine Ob2.drew ?_ | refine kO2b (by assumption) ?_)); obtain ⟨_, t0, t1, tf⟩ := id TA; have TB : Ob2 v7 (w.heap.size + 1 + 1 + 1) := (by repeat (with_reducible first | exact O54.out | exact TB | exact TD | refine Ob2.drew ?_ | refine kO2b (by assumption) ?_)); obtain ⟨_, s0, s1, sf⟩ := id TB)
          | (go_at_call 104; with_reducible refine (C4.out _ sm xm nm cm dm (by repeat (with_reducible first | assumption | exact Below.refl _ _ | refine Below.drew ?_ | refine kBa ?_ | refine kBb (by assumption) ?_)) HM.out.1 (by repeat (with_reducible first | exact HM.out.2 | refine kZd ?_ | refine kZb (by assumption) ?_))).mono ?_; rintro e v8 ⟨sp, xp, np, cp, dp, rfl, hv8, HP⟩; have TC : Ob2 v8 (w.heap.size + 1 + 1) := (by repeat (with_reducible first | exact O44.out | exact TA | exact TC | refine Ob2.drew ?_ | refine kO2b (by assumption) ?_)); obtain ⟨_, u0, u1, uf⟩ := id TC; have TD : Ob2 v8 (w.heap.size + 1 + 1 + 1) := (by repeat (with_reducible first | exact O54.out | exact TB | exact TD | refine Ob2.drew ?_ | refine kO2b (by assumption) ?_)); obtain ⟨_, p0, p1, pf⟩ := id TD))
      all_goals
        have hb8 : Below w4.heap.size w4 v8 := (by repeat (with_reducible first | assumption | exact Below.refl _ _ | refine Below.drew ?_ | refine kBa ?_ | refine kBb (by assumption) ?_))
        have hbw := HW.out.trans ((HB4.out.trans (hb8.mono HB4.out.size)).mono HW.out.size)
        go_wp2
        refine bodyPost_ret (v := .tuple #[.agg #[.bool r3, .slice zq kq cq], .agg #[.bool sp, .slice xp np cp]]) (by simp [results, Tryz.results68, go_sem, u0, u1, p0, p1]) rfl ⟨r3, zq, kq, cq, dq, sp, xp, np, cp, dp, (sg true (u.natAbs / v.natAbs)), u - (sg true (u.natAbs / v.natAbs)) * v, rfl, below_st2 (below_st2 hbw (by omega)) (by omega), by omega, HP.out.1, ?_, ?_, HFl.out⟩
        · exact (TD.far (by omega)).x2.zn (TC.x2.zn (HX.out.below hb8))
        · exact (TD.far (by omega)).x2.zn (TC.x2.zn HP.out.2)

    · have hk1 : 0 < kr := by omega
      have hkd : decide (0 < kr) = true := decide_eq_true hk1
      have HFl := hid (flr_rest HS.out HA.out.sgn HB.out.sgn HV0.out (H2.out.2.2.2.pos' hk1))
      go_wp2_with fail
      refine (mkZ_c (by omega)).mono ?_
      rintro e w3 ⟨r3, rfl, hb3, HR3⟩
      have HB3 := hid (HB2.out.trans (hb3.mono HB2.out.size))
      have HX3 := hid (Zn.of (H2.out.2.2.1.below hb3) HR3.out)
      have hsz3 := HB3.out.size
      clear hb3 HR3 a0 a1 b0 b1 za zb
      obtain ⟨za, a0, a1⟩ := BA.out.below HB3.out
      obtain ⟨zb, b0, b1⟩ := BB.out.below HB3.out
      have hz0 : w.heap.size < w3.heap.size := by omega
      have hz1 : w.heap.size + 1 < w3.heap.size := by omega
      go_wp2_with fail
      have hX8 := x2_new w3 70 r3 zq kq cq
      have h8 := HX3.out.alloc (.cells #[.bool r3, .slice zq kq cq] 70)
      have hb8 := below_alloc HB3.out (.cells #[.bool r3, .slice zq kq cq] 70)
      have hB8 : w.heap.size + 1 + 1 + 1 < w3.heap.size := by omega
      generalize w3.alloc (.cells #[.bool r3, .slice zq kq cq] 70) = w4 at *
      generalize w3.heap.size = B8 at *
      have HB4 := hid hb8; have X8 := hid hX8; have HX := hid h8
      have BA4 := hid (BA.out.below HB4.out); have BB4 := hid (BB.out.below HB4.out); have O44 := hid (O4.out.below HB4.out); have O54 := hid (O5.out.below HB4.out)
      have hkx : kq ≤ 1100 := by omega
      clear hX8 h8 hb8 a0 a1 b0 b1 za zb HX3 HB3
      obtain ⟨z8, x0, x1, xf⟩ := X8.out
      have C1 : Hid (∀ W, Calls Tryz.prog 81 #[.int .i64 1] W fun e w' => ∃ s x n c d, e = .returned (.agg #[.bool s, .slice x n c]) ∧ Below W.heap.size W w' ∧ Hid (n ≤ 2 ∧ Zn w' s x n d 1)) := fun W => zInt1_c
      have C2 : Hid (∀ (W : World) (s : Bool) (x : Option Addr) (n c : Nat) (d : Nat → Int), Below w4.heap.size w4 W → n ≤ 2 → Zn W s x n d 1 → Calls Tryz.prog 104 #[.agg #[.bool r3, .slice zq kq cq], .agg #[.bool s, .slice x n c]] W fun e w' => ∃ s x n c d, e = .returned (.agg #[.bool s, .slice x n c]) ∧ Below W.heap.size W w' ∧ Hid (n ≤ kq + 3 ∧ Zn w' s x n d (sg true (u.natAbs / v.natAbs) - 1))) := fun W s x n c d hW hn2 h2 => (zSubE_c (HX.out.below hW) h2 (by omega) (by omega)).mono (fun e w' ⟨s, x, n, c, d, h1, h2, h3, h4⟩ => ⟨s, x, n, c, d, h1, h2, by omega, h4⟩)
      go_region_with
        (first
          | (go_at_call 81; with_reducible refine (C1.out _).mono ?_; rintro e v5 ⟨si, xi, ni, ci, di, rfl, hv5, HI⟩; have TU : X2 v5 B8 r3 zq kq cq := (by repeat (with_reducible first | exact X8.out | refine X2.drew ?_ | refine kX2b (by assumption) ?_)); obtain ⟨_, t0, t1, tf⟩ := id TU)
          | (go_at_call 104; with_reducible refine (C2.out _ si xi ni ci di (by repeat (with_reducible first | assumption | exact Below.refl _ _ | refine Below.drew ?_ | refine kBa ?_ | refine kBb (by assumption) ?_)) HI.out.1 (by repeat (with_reducible first | exact HI.out.2 | refine kZd ?_ | refine kZb (by assumption) ?_))).mono ?_; rintro e v6 ⟨sp, xp, np, cp, dp, rfl, hv6, HP⟩; have TV : X2 v6 B8 r3 zq kq cq := (by repeat (with_reducible first | exact X8.out | exact TU | refine X2.drew ?_ | refine kX2b (by assumption) ?_)); obtain ⟨_, u0, u1, uf⟩ := id TV))
      all_goals
      have hb6 : Below w4.heap.size w4 v6 := (by repeat (with_reducible first | assumption | exact Below.refl _ _ | refine Below.drew ?_ | refine kBa ?_ | refine kBb (by assumption) ?_))
      have HB5 := hid (HB4.out.trans (hb6.mono HB4.out.size))
      have hsz5 := HB5.out.size
      have hsz4 := X8.out.z
      have XN := hid (TV.put sp xp np cp)
      have HXN := hid (TV.zn (u0 := .bool sp) (u1 := .slice xp np cp) HP.out.2)
      have hB0 : B8 ≠ w.heap.size := by omega
      have hB1 : B8 ≠ w.heap.size + 1 := by omega
      have hB2 : B8 ≠ w.heap.size + 1 + 1 := by omega
      have hB3 : B8 ≠ w.heap.size + 1 + 1 + 1 := by omega
      have BAN := hid ((BA.out.below HB5.out).far (u0 := .bool sp) (u1 := .slice xp np cp) hB0)
      have BBN := hid ((BB.out.below HB5.out).far (u0 := .bool sp) (u1 := .slice xp np cp) hB1)
      have O4N := hid ((O4.out.below HB5.out).far (u0 := .bool sp) (u1 := .slice xp np cp) hB2)
      have O5N := hid ((O5.out.below HB5.out).far (u0 := .bool sp) (u1 := .slice xp np cp) hB3)
      have HBN := hid (below_st2 (u0 := .bool sp) (u1 := .slice xp np cp) HB5.out (show w1.heap.size ≤ B8 by omega))
      have hnp : np ≤ 1100 := by have := HP.out.1; omega
      clear HB4 X8 HX BA4 BB4 O44 O54 C1 C2 hv5 hv6 TU TV t0 t1 tf u0 u1 uf x0 x1 xf hkx hb6 HI z8 HB5 hsz5
      go_wp2_with fail
      generalize (v6.setCell ⟨B8, 0, none⟩ (.bool sp)).setCell ⟨B8, 1, none⟩ (.slice xp np cp) = w4' at *
      have HB4 := HBN; have X8 := XN; have HX := HXN; have BA4 := BAN; have BB4 := BBN; have O44 := O4N; have O54 := O5N; have hkx := hnp
      clear HBN XN HXN BAN BBN O4N O5N hnp

      obtain ⟨z8, x0, x1, xf⟩ := X8.out
      obtain ⟨za, a0, a1⟩ := BA4.out
      obtain ⟨zb, b0, b1⟩ := BB4.out
      obtain ⟨hz4, c0, c1, cf⟩ := O44.out
      obtain ⟨hz5, d0, d1, df⟩ := O54.out
      have C3 : Hid (∀ W, Below w4'.heap.size w4' W → Calls Tryz.prog 87 #[.agg #[.bool sp, .slice xp np cp], .agg #[.bool sb, .slice xb nb cb]] W fun e w' => ∃ s x n c d, e = .returned (.agg #[.bool s, .slice x n c]) ∧ Below W.heap.size W w' ∧ Hid (n ≤ np + nb ∧ Zn w' s x n d ((sg true (u.natAbs / v.natAbs) - 1) * v))) := fun W hW => zMulE_c (HX.out.below hW) ((HB.out.below HB4.out).below hW) (by omega) (by omega)
      have C4 : Hid (∀ (W : World) (s : Bool) (x : Option Addr) (n c : Nat) (d : Nat → Int), Below w4'.heap.size w4' W → n ≤ np + nb → Zn W s x n d ((sg true (u.natAbs / v.natAbs) - 1) * v) → Calls Tryz.prog 104 #[.agg #[.bool sa, .slice xa na ca], .agg #[.bool s, .slice x n c]] W fun e w' => ∃ s x n c d, e = .returned (.agg #[.bool s, .slice x n c]) ∧ Below W.heap.size W w' ∧ Hid (n ≤ 8192 ∧ Zn w' s x n d (u - (sg true (u.natAbs / v.natAbs) - 1) * v))) := fun W s x n c d hW hn2 h2 => (zSubE_c ((HA.out.below HB4.out).below hW) h2 (by omega) (by omega)).mono (fun e w' ⟨s, x, n, c, d, h1, h2, h3, h4⟩ => ⟨s, x, n, c, d, h1, h2, by omega, h4⟩)
      go_region_held3 (fun w' => w'.cell? ⟨w.heap.size, 0, none⟩ = some (.bool sa) ∧ w'.cell? ⟨w.heap.size, 1, none⟩ = some (.slice xa na ca) ∧ w'.cell? ⟨w.heap.size + 1, 0, none⟩ = some (.bool sb) ∧ w'.cell? ⟨w.heap.size + 1, 1, none⟩ = some (.slice xb nb cb) ∧ w'.cell? ⟨B8, 0, none⟩ = some (.bool sp) ∧ w'.cell? ⟨B8, 1, none⟩ = some (.slice xp np cp) ∧ (w'.cell? ⟨w.heap.size + 1 + 1, 0, none⟩).isSome = true ∧ (w'.cell? ⟨w.heap.size + 1 + 1, 1, none⟩).isSome = true ∧ (w'.cell? ⟨w.heap.size + 1 + 1 + 1, 0, none⟩).isSome = true ∧ (w'.cell? ⟨w.heap.size + 1 + 1 + 1, 1, none⟩).isSome = true ∧ w'.frozen? ⟨w.heap.size + 1 + 1, 0, none⟩ = false ∧ w'.frozen? ⟨w.heap.size + 1 + 1, 1, none⟩ = false ∧ w'.frozen? ⟨w.heap.size + 1 + 1 + 1, 0, none⟩ = false ∧ w'.frozen? ⟨w.heap.size + 1 + 1 + 1, 1, none⟩ = false)
        (refine ⟨?_, ?_, ?_, ?_, ?_, ?_, ?_, ?_, ?_, ?_, ?_, ?_, ?_, ?_⟩ <;> repeat (with_reducible first | assumption | exact cf _ | exact df _ | exact tf _ | exact sf _ | exact uf _ | exact pf _ | exact kI0 c0 | exact kI0 c1 | exact kI0 d0 | exact kI0 d1 | exact kI0 t0 | exact kI0 t1 | exact kI0 s0 | exact kI0 s1 | exact kI0 u0 | exact kI0 u1 | exact kI0 p0 | exact kI0 p1 | refine kCd ?_ | refine kId ?_ | refine kFd ?_ | refine kCs (by simp only [ne_eq]; omega) ?_ | refine kIs ?_ | refine kFs ?_ | refine kCb (by assumption) ?_ | refine kIb (by assumption) ?_))
        (first
          | (go_at_call 87; with_reducible refine (C3.out _ (by repeat (with_reducible first | assumption | exact Below.refl _ _ | refine Below.drew ?_ | refine kBa ?_ | refine kBb (by assumption) ?_))).mono ?_; rintro e v7 ⟨sm, xm, nm, cm, dm, rfl, hv7, HM⟩; have TA : Ob2 v7 (w.heap.size + 1 + 1) := (by repeat (with_reducible first | exact O44.out | exact TA | exact TC | refine Ob2.drew ?_ | refine kO2b (by assumption) ?_)); obtain ⟨_, t0, t1, tf⟩ := id TA; have TB : Ob2 v7 (w.heap.size + 1 + 1 + 1) := (by repeat (with_reducible first | exact O54.out | exact TB | exact TD | refine Ob2.drew ?_ | refine kO2b (by assumption) ?_)); obtain ⟨_, s0, s1, sf⟩ := id TB)
          | (go_at_call 104; with_reducible refine (C4.out _ sm xm nm cm dm (by repeat (with_reducible first | assumption | exact Below.refl _ _ | refine Below.drew ?_ | refine kBa ?_ | refine kBb (by assumption) ?_)) HM.out.1 (by repeat (with_reducible first | exact HM.out.2 | refine kZd ?_ | refine kZb (by assumption) ?_))).mono ?_; rintro e v8 ⟨sj, xj, nj, cj, dj, rfl, hv8, HP⟩; have TC : Ob2 v8 (w.heap.size + 1 + 1) := (by repeat (with_reducible first | exact O44.out | exact TA | exact TC | refine Ob2.drew ?_ | refine kO2b (by assumption) ?_)); obtain ⟨_, u0, u1, uf⟩ := id TC; have TD : Ob2 v8 (w.heap.size + 1 + 1 + 1) := (by repeat (with_reducible first | exact O54.out | exact TB | exact TD | refine Ob2.drew ?_ | refine kO2b (by assumption) ?_)); obtain ⟨_, p0, p1, pf⟩ := id TD))
      all_goals
        have hb8 : Below w4'.heap.size w4' v8 := (by repeat (with_reducible first | assumption | exact Below.refl _ _ | refine Below.drew ?_ | refine kBa ?_ | refine kBb (by assumption) ?_))
        have hbw := HW.out.trans ((HB4.out.trans (hb8.mono HB4.out.size)).mono HW.out.size)
        go_wp2
        refine bodyPost_ret (v := .tuple #[.agg #[.bool sp, .slice xp np cp], .agg #[.bool sj, .slice xj nj cj]]) (by simp [results, Tryz.results68, go_sem, u0, u1, p0, p1]) rfl ⟨sp, xp, np, cp, dp, sj, xj, nj, cj, dj, (sg true (u.natAbs / v.natAbs) - 1), u - (sg true (u.natAbs / v.natAbs) - 1) * v, rfl, below_st2 (below_st2 hbw (by omega)) (by omega), by omega, HP.out.1, ?_, ?_, HFl.out⟩
        · exact (TD.far (by omega)).x2.zn (TC.x2.zn (HX.out.below hb8))
        · exact (TD.far (by omega)).x2.zn (TC.x2.zn HP.out.2)

  · have HS := hid (show sa = sb by simpa using hse)
    have HFl := hid (flr_same HS.out HA.out.sgn HB.out.sgn HV0.out)
    go_wp2_with fail
    refine (mkZ_c (by omega)).mono ?_
    rintro e w3 ⟨r3, rfl, hb3, HR3⟩
    have HB3 := hid (HB2.out.trans (hb3.mono HB2.out.size))
    have HX3 := hid (Zn.of (H2.out.2.2.1.below hb3) HR3.out)
    have hsz3 := HB3.out.size
    clear hb3 HR3 a0 a1 b0 b1 za zb
    obtain ⟨za, a0, a1⟩ := BA.out.below HB3.out
    obtain ⟨zb, b0, b1⟩ := BB.out.below HB3.out
    have hz0 : w.heap.size < w3.heap.size := by omega
    have hz1 : w.heap.size + 1 < w3.heap.size := by omega
    go_wp2_with fail
    have hX8 := x2_new w3 70 r3 zq kq cq
    have h8 := HX3.out.alloc (.cells #[.bool r3, .slice zq kq cq] 70)
    have hb8 := below_alloc HB3.out (.cells #[.bool r3, .slice zq kq cq] 70)
    have hB8 : w.heap.size + 1 + 1 + 1 < w3.heap.size := by omega
    generalize w3.alloc (.cells #[.bool r3, .slice zq kq cq] 70) = w4 at *
    generalize w3.heap.size = B8 at *
    have HB4 := hid hb8; have X8 := hid hX8; have HX := hid h8
    have BA4 := hid (BA.out.below HB4.out); have BB4 := hid (BB.out.below HB4.out); have O44 := hid (O4.out.below HB4.out); have O54 := hid (O5.out.below HB4.out)
    have hkx : kq ≤ 1100 := by omega
    clear hX8 h8 hb8 a0 a1 b0 b1 za zb HX3 HB3
    obtain ⟨z8, x0, x1, xf⟩ := X8.out
    obtain ⟨za, a0, a1⟩ := BA4.out
    obtain ⟨zb, b0, b1⟩ := BB4.out
    obtain ⟨hz4, c0, c1, cf⟩ := O44.out
    obtain ⟨hz5, d0, d1, df⟩ := O54.out
    have C3 : Hid (∀ W, Below w4.heap.size w4 W → Calls Tryz.prog 87 #[.agg #[.bool r3, .slice zq kq cq], .agg #[.bool sb, .slice xb nb cb]] W fun e w' => ∃ s x n c d, e = .returned (.agg #[.bool s, .slice x n c]) ∧ Below W.heap.size W w' ∧ Hid (n ≤ kq + nb ∧ Zn w' s x n d ((sg false (u.natAbs / v.natAbs)) * v))) := fun W hW => zMulE_c (HX.out.below hW) ((HB.out.below HB4.out).below hW) (by omega) (by omega)
    have C4 : Hid (∀ (W : World) (s : Bool) (x : Option Addr) (n c : Nat) (d : Nat → Int), Below w4.heap.size w4 W → n ≤ kq + nb → Zn W s x n d ((sg false (u.natAbs / v.natAbs)) * v) → Calls Tryz.prog 104 #[.agg #[.bool sa, .slice xa na ca], .agg #[.bool s, .slice x n c]] W fun e w' => ∃ s x n c d, e = .returned (.agg #[.bool s, .slice x n c]) ∧ Below W.heap.size W w' ∧ Hid (n ≤ 8192 ∧ Zn w' s x n d (u - (sg false (u.natAbs / v.natAbs)) * v))) := fun W s x n c d hW hn2 h2 => (zSubE_c ((HA.out.below HB4.out).below hW) h2 (by omega) (by omega)).mono (fun e w' ⟨s, x, n, c, d, h1, h2, h3, h4⟩ => ⟨s, x, n, c, d, h1, h2, by omega, h4⟩)
    go_region_held3 (fun w' => w'.cell? ⟨w.heap.size, 0, none⟩ = some (.bool sa) ∧ w'.cell? ⟨w.heap.size, 1, none⟩ = some (.slice xa na ca) ∧ w'.cell? ⟨w.heap.size + 1, 0, none⟩ = some (.bool sb) ∧ w'.cell? ⟨w.heap.size + 1, 1, none⟩ = some (.slice xb nb cb) ∧ w'.cell? ⟨B8, 0, none⟩ = some (.bool r3) ∧ w'.cell? ⟨B8, 1, none⟩ = some (.slice zq kq cq) ∧ (w'.cell? ⟨w.heap.size + 1 + 1, 0, none⟩).isSome = true ∧ (w'.cell? ⟨w.heap.size + 1 + 1, 1, none⟩).isSome = true ∧ (w'.cell? ⟨w.heap.size + 1 + 1 + 1, 0, none⟩).isSome = true ∧ (w'.cell? ⟨w.heap.size + 1 + 1 + 1, 1, none⟩).isSome = true ∧ w'.frozen? ⟨w.heap.size + 1 + 1, 0, none⟩ = false ∧ w'.frozen? ⟨w.heap.size + 1 + 1, 1, none⟩ = false ∧ w'.frozen? ⟨w.heap.size + 1 + 1 + 1, 0, none⟩ = false ∧ w'.frozen? ⟨w.heap.size + 1 + 1 + 1, 1, none⟩ = false)
      (refine ⟨?_, ?_, ?_, ?_, ?_, ?_, ?_, ?_, ?_, ?_, ?_, ?_, ?_, ?_⟩ <;> repeat (with_reducible first | assumption | exact cf _ | exact df _ | exact tf _ | exact sf _ | exact uf _ | exact pf _ | exact kI0 c0 | exact kI0 c1 | exact kI0 d0 | exact kI0 d1 | exact kI0 t0 | exact kI0 t1 | exact kI0 s0 | exact kI0 s1 | exact kI0 u0 | exact kI0 u1 | exact kI0 p0 | exact kI0 p1 | refine kCd ?_ | refine kId ?_ | refine kFd ?_ | refine kCs (by simp only [ne_eq]; omega) ?_ | refine kIs ?_ | refine kFs ?_ | refine kCb (by assumption) ?_ | refine kIb (by assumption) ?_))
      (first
        | (go_at_call 87; with_reducible refine (C3.out _ (by repeat (with_reducible first | assumption | exact Below.refl _ _ | refine Below.drew ?_ | refine kBa ?_ | refine kBb (by assumption) ?_))).mono ?_; rintro e v7 ⟨sm, xm, nm, cm, dm, rfl, hv7, HM⟩; have TA : Ob2 v7 (w.heap.size + 1 + 1) := (by repeat (with_reducible first | exact O44.out | exact TA | exact TC | refine Ob2.drew ?_ | refine kO2b (by assumption) ?_)); obtain ⟨_, t0, t1, tf⟩ := id TA; have TB : Ob2 v7 (w.heap.size + 1 + 1 + 1) := (by repeat (with_reducible first | exact O54.out | exact TB | exact TD | refine Ob2.drew ?_ | refine kO2b (by assumption) ?_)); obtain ⟨_, s0, s1, sf⟩ := id TB)
        | (go_at_call 104; with_reducible refine (C4.out _ sm xm nm cm dm (by repeat (with_reducible first | assumption | exact Below.refl _ _ | refine Below.drew ?_ | refine kBa ?_ | refine kBb (by assumption) ?_)) HM.out.1 (by repeat (with_reducible first | exact HM.out.2 | refine kZd ?_ | refine kZb (by assumption) ?_))).mono ?_; rintro e v8 ⟨sp, xp, np, cp, dp, rfl, hv8, HP⟩; have TC : Ob2 v8 (w.heap.size + 1 + 1) := (by repeat (with_reducible first | exact O44.out | exact TA | exact TC | refine Ob2.drew ?_ | refine kO2b (by assumption) ?_)); obtain ⟨_, u0, u1, uf⟩ := id TC; have TD : Ob2 v8 (w.heap.size + 1 + 1 + 1) := (by repeat (with_reducible first | exact O54.out | exact TB | exact TD | refine Ob2.drew ?_ | refine kO2b (by assumption) ?_)); obtain ⟨_, p0, p1, pf⟩ := id TD))
    all_goals
      have hb8 : Below w4.heap.size w4 v8 := (by repeat (with_reducible first | assumption | exact Below.refl _ _ | refine Below.drew ?_ | refine kBa ?_ | refine kBb (by assumption) ?_))
      have hbw := HW.out.trans ((HB4.out.trans (hb8.mono HB4.out.size)).mono HW.out.size)
      go_wp2
      refine bodyPost_ret (v := .tuple #[.agg #[.bool r3, .slice zq kq cq], .agg #[.bool sp, .slice xp np cp]]) (by simp [results, Tryz.results68, go_sem, u0, u1, p0, p1]) rfl ⟨r3, zq, kq, cq, dq, sp, xp, np, cp, dp, (sg false (u.natAbs / v.natAbs)), u - (sg false (u.natAbs / v.natAbs)) * v, rfl, below_st2 (below_st2 hbw (by omega)) (by omega), by omega, HP.out.1, ?_, ?_, HFl.out⟩
      · exact (TD.far (by omega)).x2.zn (TC.x2.zn (HX.out.below hb8))
      · exact (TD.far (by omega)).x2.zn (TC.x2.zn HP.out.2)
end Go.Proofs.YtndiiknbkjlbiaaGreatDoor
namespace Go.Proofs.YtndiiknbkjlbiaaGreatDoor
open Go.RowKit

set_option maxRecDepth 100000 in
set_option maxHeartbeats 400000 in
theorem rclone_c (ao : Option Addr) (n cap : Nat) (f : Nat → Int) (w : World) (hn : n ≤ 1048576) (hr : Rd .u64 w ao n f) (hnil : ao = none → n = 0 ∧ cap = 0) :
    Calls Tryz.prog 90 #[.slice ao n cap] w fun e w' => ∃ ao' cap', e = .returned (.slice ao' n cap') ∧ Below w.heap.size w w' ∧ Own .u64 83 w' w.heap.size (.slice ao' n cap') n f := by
  cases ao with
  | none =>
    obtain ⟨rfl, rfl⟩ := hnil rfl
    go_enter Tryz.func90, Tryz.ntmps90
    obtain ⟨i0, hi, hz0, hz1, hz2⟩ := info_parts Tryz.infoU64
    go_wp2_with (at_builtin; refine wpList_append_own_none rfl (.const (.slice none 0 0)) (.tmp 3) 22 rfl w.heap.size 83 i0 1 Tryz.underlying22 hi (.slice none 0 0) 0 [] rfl (World.ownsRow_nil _ _ _ _) rfl ?_)
    go_ret
    exact ⟨none, 0, rfl, Below.refl _ _, own_nil _ _ _ _ _⟩
  | some ad =>
    clear hnil
    have HR := hid hr
    clear hr
    go_enter Tryz.func90, Tryz.ntmps90
    obtain ⟨i0, hi, hz0, hz1, hz2⟩ := info_parts Tryz.infoU64
    go_wp2_with (at_builtin; refine wpList_append_own w rfl (.const (.slice none 0 0)) (.tmp 3) 22 rfl w.heap.size 83 i0 (.int .u64 0) 1 8 Tryz.underlying22 hi hz0 hz1 hz2 rfl (by decide) (.slice none 0 0) 0 [] rfl (World.ownsRow_nil _ _ _ _) ad n cap (lst .u64 f n) rfl (by rw [lst_length, Nat.mul_one]) ?c1 (lst_one _ _ _) ?c2 ?c3 (Nat.le_refl _) ?_)
    case c1 =>
      intro j u hu
      obtain ⟨hj, rfl⟩ := lst_getE hu
      obtain ⟨b, o, e, hc⟩ := HR.out j hj
      cases e
      rw [addr_add]; exact hc
    case c2 => unfold maxLen; omega
    case c3 => omega
    intro v' w' hown hgr _
    have hown' : Own .u64 83 w' w.heap.size v' n f := hown
    have hbel : Below w.heap.size w w' := (Below.refl _ _).grown hgr (Nat.le_refl _) (fun k h => by simp [Value.ownBlock] at h)
    obtain ⟨ao', cap', hv, hcc, hnn, hml, hrd, hlt⟩ := hown'.shape
    rw [hv] at hown' ⊢
    clear hown hgr hv
    have HO := hid hown'
    clear hown'
    go_wp2
    go_ret
    exact ⟨ao', cap', rfl, hbel, HO.out⟩
theorem cloneWn_c {w s x n c f v} (h : Wn w s x n c f v) (hn : n ≤ 4096) :
    Calls Tryz.prog 90 #[.slice x n c] w fun e w' => ∃ z c', e = .returned (.slice z n c') ∧ Below w.heap.size w w' ∧ Hid (Wn w' s z n c' f v) :=
  (rclone_c x n c f w (by omega) h.rd h.nil).mono (fun _ _ ⟨z, c', h1, h2, h3⟩ => ⟨z, c', h1, h2, h3.slice.2.2.2.1, h.lm, h.wf, ⟨h3.slice.1, h3.slice.2.1⟩, h3.slice.2.2.1, h.val⟩)

set_option maxRecDepth 100000 in
set_option maxHeartbeats 4000000 in
theorem rCopy_n {L : Nat} {w : World} {sa : Bool} {xa : Option Addr} {na ca : Nat} {fa : Nat → Int} {ya : Option Addr} {ma da : Nat} {ga : Nat → Int} {a : Rat} (ha : Rn L w sa xa na ca fa ya ma da ga a) (hL : L ≤ 1000) :
    Calls Tryz.prog 53 #[.agg #[.bool sa, .slice xa na ca, .slice ya ma da]] w fun e w' => ∃ x c y d, e = .returned (.agg #[.bool sa, .slice x na c, .slice y ma d]) ∧ Below w.heap.size w w' ∧ Rn L w' sa x na c fa y ma d ga a := by
  have b1 := ha.ln; have b2 := ha.ld
  have h1 := (ha.alloc (.cells #[.bool sa, .slice xa na ca, .slice ya ma da] 24)).alloc (.cells #[.bool false, .slice none 0 0, .slice none 0 0] 24)
  have h3 := ob_new (w.alloc (.cells #[.bool sa, .slice xa na ca, .slice ya ma da] 24)) 24
  rw [size_alloc1] at h3
  have h4 := below_alloc (below_alloc (Below.refl w.heap.size w) (.cells #[.bool sa, .slice xa na ca, .slice ya ma da] 24)) (.cells #[.bool false, .slice none 0 0, .slice none 0 0] 24)
  have h5 := (bx3_at w (.bool sa) (.slice xa na ca) (.slice ya ma da) 24).alloc (.cells #[.bool false, .slice none 0 0, .slice none 0 0] 24)
  clear ha
  go_enter Tryz.func53, Tryz.ntmps53
  go_wp2_with fail
  generalize (w.alloc (.cells #[.bool sa, .slice xa na ca, .slice ya ma da] 24)).alloc (.cells #[.bool false, .slice none 0 0, .slice none 0 0] 24) = w1 at *
  have HA := hid h1; have OB := h3; have HW := hid h4
  obtain ⟨hz, z0, z1, z2, zf⟩ := h3
  obtain ⟨hy, x0, x1, x2⟩ := h5
  clear h1 h4
  have C1 : Hid (∀ W, Below w1.heap.size w1 W → Calls Tryz.prog 90 #[.slice xa na ca] W fun e w' => ∃ z c', e = .returned (.slice z na c') ∧ Below W.heap.size W w' ∧ Hid (Wn w' sa z na c' fa a.num)) := fun W hW => cloneWn_c (HA.out.num.below hW) (by omega)
  have C2 : Hid (∀ W, Below w1.heap.size w1 W → Calls Tryz.prog 90 #[.slice ya ma da] W fun e w' => ∃ z c', e = .returned (.slice z ma c') ∧ Below W.heap.size W w' ∧ Hid (Wn w' false z ma c' ga (a.den : Int))) := fun W hW => cloneWn_c (HA.out.den.below hW) (by omega)
  go_region_held3 (fun w' => w'.cell? ⟨w.heap.size, 0, none⟩ = some (.bool sa) ∧ w'.cell? ⟨w.heap.size, 1, none⟩ = some (.slice xa na ca) ∧ w'.cell? ⟨w.heap.size, 2, none⟩ = some (.slice ya ma da) ∧ (w'.cell? ⟨w.heap.size + 1, 0, none⟩).isSome = true ∧ (w'.cell? ⟨w.heap.size + 1, 1, none⟩).isSome = true ∧ (w'.cell? ⟨w.heap.size + 1, 2, none⟩).isSome = true ∧ w'.frozen? ⟨w.heap.size + 1, 0, none⟩ = false ∧ w'.frozen? ⟨w.heap.size + 1, 1, none⟩ = false ∧ w'.frozen? ⟨w.heap.size + 1, 2, none⟩ = false)
    (refine ⟨?_, ?_, ?_, ?_, ?_, ?_, ?_, ?_, ?_⟩ <;> repeat (with_reducible first | assumption | exact zf _ | exact kI0 z0 | exact kI0 z1 | exact kI0 z2 | exact tf _ | exact kI0 t0 | exact kI0 t1 | exact kI0 t2 | exact uf _ | exact kI0 u0 | exact kI0 u1 | exact kI0 u2 | refine kCd ?_ | refine kId ?_ | refine kFd ?_ | refine kCs (by simp only [ne_eq]; omega) ?_ | refine kIs ?_ | refine kFs ?_ | refine kCb (by assumption) ?_ | refine kIb (by assumption) ?_))
    (first
      | (go_at_call 90; with_reducible refine (C1.out _ (by repeat (with_reducible first | assumption | exact Below.refl _ _ | refine Below.drew ?_ | refine kBa ?_ | refine kBb (by assumption) ?_))).mono ?_; rintro e w5 ⟨zp, cp, rfl, hb5, HP⟩; have TU : Ob w5 (w.heap.size + 1) := (by repeat (with_reducible first | exact OB | exact TU | exact TV | refine Ob.drew ?_ | refine kOb (by assumption) ?_)); obtain ⟨_, t0, t1, t2, tf⟩ := id TU)
      | (go_at_call 90; with_reducible refine (C2.out _ (by repeat (with_reducible first | assumption | exact Below.refl _ _ | refine Below.drew ?_ | refine kBa ?_ | refine kBb (by assumption) ?_))).mono ?_; rintro e w6 ⟨zq, cq, rfl, hb6, HQ⟩; have TV : Ob w6 (w.heap.size + 1) := (by repeat (with_reducible first | exact OB | exact TU | exact TV | refine Ob.drew ?_ | refine kOb (by assumption) ?_)); obtain ⟨_, u0, u1, u2, uf⟩ := id TV))
  have WA := HP.out.below hb6
  have hb : Below w1.heap.size w1 w6 := (by repeat (with_reducible first | assumption | exact Below.refl _ _ | refine Below.drew ?_ | refine kBa ?_ | refine kBb (by assumption) ?_))
  go_wp2
  exact bodyPost_ret (v := .agg #[.bool sa, .slice zp na cp, .slice zq ma cq]) (by simp [results, Tryz.results53, go_sem, u0, u1, u2]) rfl ⟨zp, cp, zq, cq, rfl, below_st (HW.out.trans (hb.mono HW.out.size)) (by omega), TV.wn WA, TV.wn HQ.out, b1, b2⟩

set_option maxRecDepth 100000 in
set_option maxHeartbeats 4000000 in
theorem rNeg_n {L : Nat} {w : World} {sa : Bool} {xa : Option Addr} {na ca : Nat} {fa : Nat → Int} {ya : Option Addr} {ma da : Nat} {ga : Nat → Int} {a : Rat} (ha : Rn L w sa xa na ca fa ya ma da ga a) (hL : L ≤ 1000) :
    Calls Tryz.prog 15 #[.agg #[.bool sa, .slice xa na ca, .slice ya ma da]] w fun e w' => RatTup L w w' e (-a) := by
  have HA0 := hid ha
  have b1 := ha.num.cap
  clear ha
  go_enter Tryz.func15, Tryz.ntmps15
  go_wp2_with fail
  refine (rForm_n ((HA0.out.alloc _).alloc _) (by omega)).mono ?_
  rintro e w1 ⟨rfl, hbel⟩
  have hbx := ((bx3_at w _ _ _ _).alloc _).below hbel
  have hob := (ob_new (w.alloc _) _).below hbel
  rw [size_alloc1] at hob
  have HW1 : Hid (Below w.heap.size w w1) := (below_alloc (below_alloc (Below.refl w.heap.size w) _) _).trans (hbel.mono (by simp; omega))
  have HA1 := hid (HA0.out.below HW1.out); have OB1 := hid hob
  clear hbel hob HA0
  obtain ⟨za, x0, x1, x2⟩ := hbx
  go_wp2_with fail
  refine (rCopy_n HA1.out hL).mono ?_
  rintro e w2 ⟨xp, cp, yp, dp, rfl, hb, hr⟩
  have RP2 := hid hr; have OB2 := hid (OB1.out.below hb); have HW2 := hid (HW1.out.trans (hb.mono HW1.out.size))
  clear hr hb OB1 HW1 HA1 za x0 x1 x2
  go_wp2_with fail
  refine (rsigned_c _ xp yp na cp ma dp _ (by omega)).mono ?_
  rintro e w3 ⟨rs, rfl, HRS, hb⟩
  have RP3 := hid (RP2.out.next hb); have OB3 := hid (OB2.out.next hb); have HW3 := hid ((below_alloc HW2.out _).trans (hb.mono (below_alloc HW2.out _).size))
  clear hb RP2 OB2 HW2
  obtain ⟨hz, z0, z1, z2, zf⟩ := OB3.out
  go_wp2
  exact bodyPost_ret (v := .tuple #[.agg #[.bool rs, .slice xp na cp, .slice yp ma dp], .int .i64 0]) (by simp [results, Tryz.results15, go_sem, z0, z1, z2]) rfl ⟨rs, xp, na, cp, fa, yp, ma, dp, ga, rfl, below_st HW3.out (by omega), OB3.out.rn (RP3.out.negate HRS.out)⟩
end Go.Proofs.YtndiiknbkjlbiaaGreatDoor
namespace Go.Proofs.YtndiiknbkjlbiaaGreatDoor
open Go.RowKit

/-- How two numbers lie to one another. -/
def ROrd (c : Int) (a b : Rat) : Prop := c = -1 ∧ a < b ∨ c = 0 ∧ a = b ∨ c = 1 ∧ b < a
theorem rord_of {c : Int} {a b : Rat} (h : Ord c (a.num * b.den) (b.num * a.den)) : ROrd c a b := by
  rcases h with ⟨h1, h2⟩ | ⟨h1, h2⟩ | ⟨h1, h2⟩
  · exact .inl ⟨h1, (Rat.lt_iff a b).2 h2⟩
  · refine .inr (.inl ⟨h1, Rat.le_antisymm ((Rat.le_iff a b).2 ?_) ((Rat.le_iff b a).2 ?_)⟩)
    · rw [h2]; exact Int.le_refl _
    · rw [h2]; exact Int.le_refl _
  · exact .inr (.inr ⟨h1, (Rat.lt_iff b a).2 h2⟩)
theorem prod_of {L : Nat} {w1 wx W5 w5 : World} {b4 : Nat} {r1 : Bool} {p1 : Option Addr} {k1 c1 n m : Nat} {q : Nat → Int} {v : Int} (hn : n ≤ L) (hm : m ≤ L) (hW : Below w1.heap.size w1 W5) (hD : WRes (n + m) W5 w5 r1 p1 k1 c1 q ∧ wv r1 q k1 = v) (hT : Turned w1.heap.size W5.heap.size w5 wx) (hb : Bx wx b4 r1 p1 k1 c1) : FlAt (2 * L) w1 wx b4 r1 p1 k1 c1 v := by
  have hQ := hD.1.res.turned hW hT
  have := hQ.le
  exact ⟨hb, hQ.bel, ⟨q, hQ.rd, hQ.lm, hD.1.wfB, hQ.ncap, hQ.nil', hD.2⟩, by omega⟩

set_option maxRecDepth 100000 in
set_option maxHeartbeats 8000000 in
theorem rCmp_n {L : Nat} {w : World} {sa : Bool} {xa : Option Addr} {na ca : Nat} {fa : Nat → Int} {ya : Option Addr} {ma da : Nat} {ga : Nat → Int} {a : Rat} {sb : Bool} {xb : Option Addr} {nb cb : Nat} {fb : Nat → Int} {yb : Option Addr} {mb db : Nat} {gb : Nat → Int} {b : Rat} (ha : Rn L w sa xa na ca fa ya ma da ga a) (hb : Rn L w sb xb nb cb fb yb mb db gb b) (hL : L ≤ 1000) :
    Calls Tryz.prog 19 #[.agg #[.bool sa, .slice xa na ca, .slice ya ma da], .agg #[.bool sb, .slice xb nb cb, .slice yb mb db]] w fun e w' => ∃ c, e = .returned (.tuple #[.int .i64 c, .int .i64 0]) ∧ Below w.heap.size w w' ∧ ROrd c a b := by
  have HA0 := hid ha; have HB0 := hid hb
  have b1 := ha.ln; have b2 := ha.ld; have b3 := hb.ln; have b4 := hb.ld
  clear ha hb
  go_enter Tryz.func19, Tryz.ntmps19
  go_wp2_with fail
  refine (rForm_n ((HA0.out.alloc _).alloc _) (by omega)).mono ?_
  rintro e w0 ⟨rfl, hbel⟩
  obtain ⟨ba, bb, hw⟩ := two_new hbel
  have BA0 := hid ba; have BB0 := hid bb; have HW0 := hid hw; have RA0 := hid (HA0.out.below hw); have RB0 := hid (HB0.out.below hw)
  clear hbel ba bb hw HA0 HB0
  obtain ⟨zb, y0, y1, y2⟩ := BB0.out
  go_wp2_with fail
  refine (rForm_n RB0.out (by omega)).mono ?_
  rintro e w1 ⟨rfl, hb⟩
  clear zb y0 y1 y2
  have BA1 := hid (BA0.out.below hb); have BB1 := hid (BB0.out.below hb); have RA1 := hid (RA0.out.below hb); have RB1 := hid (RB0.out.below hb); have HW1 := hid (HW0.out.trans (hb.mono HW0.out.size))
  clear BA0 BB0 RA0 RB0 HW0 hb
  obtain ⟨za, x0, x1, x2⟩ := BA1.out
  obtain ⟨zb, y0, y1, y2⟩ := BB1.out
  have C1 : Hid (∀ W, Below w1.heap.size w1 W → Calls Tryz.prog 56 #[.agg #[.bool sa, .slice xa na ca, .slice ya ma da]] W fun e w' => e = .returned (.agg #[.bool sa, .slice xa na ca]) ∧ Below W.heap.size W w') := fun W _ => numer_c sa xa ya na ca ma da W
  have C2 : Hid (∀ W, Below w1.heap.size w1 W → Calls Tryz.prog 64 #[.agg #[.bool sb, .slice xb nb cb, .slice yb mb db]] W fun e w' => e = .returned (.agg #[.bool false, .slice yb mb db]) ∧ Below W.heap.size W w') := fun W _ => denom_c sb xb yb nb cb mb db W
  have C3 : Hid (∀ W, Below w1.heap.size w1 W → Calls Tryz.prog 63 #[.agg #[.bool sa, .slice xa na ca], .agg #[.bool false, .slice yb mb db]] W fun e w' => ∃ r1 p1 k1 c1 q, e = .returned (.tuple #[.agg #[.bool r1, .slice p1 k1 c1], .int .i64 0]) ∧ Below W.heap.size W w' ∧ Hid (WRes (na + mb) W w' r1 p1 k1 c1 q ∧ wv r1 q k1 = a.num * b.den)) := fun W hW => by
    have h1 := (RA1.out.below hW).num; have h2 := (RB1.out.below hW).den
    refine (wMul_c sa false xa yb na mb ca db fa gb W (by omega) (by omega) h1.cap.1 h2.cap.1 h1.cap.2 h2.cap.2 h1.rd h2.rd h1.lm h2.lm).mono ?_
    rintro e w' ⟨r, z, k, e', h, er, rfl, hres, hans⟩
    obtain ⟨rfl, hv⟩ := hans.ok ⟨h1.wf, h2.wf⟩
    exact ⟨r, z, k, e', h, rfl, hres.res.bel, hres, by rw [hv, h1.val, h2.val]⟩
  go_upto_region 3 with fail
  go_cut [6, 7] from 18 to 25 (fun u t wx => ∃ (wy : World) (b4 : Nat) (s : Bool) (z : Option Addr) (k c : Nat), wy = wx ∧ u = .pointer (some ⟨b4, 0, none⟩) ∧ t = .int .i64 0 ∧ FlAt (2 * L) w1 wy b4 s z k c (a.num * b.den))
  case first =>
    go_region_held3 (fun w' => w'.cell? ⟨w.heap.size, 0, none⟩ = some (.bool sa) ∧ w'.cell? ⟨w.heap.size, 1, none⟩ = some (.slice xa na ca) ∧ w'.cell? ⟨w.heap.size, 2, none⟩ = some (.slice ya ma da) ∧ w'.cell? ⟨w.heap.size + 1, 0, none⟩ = some (.bool sb) ∧ w'.cell? ⟨w.heap.size + 1, 1, none⟩ = some (.slice xb nb cb) ∧ w'.cell? ⟨w.heap.size + 1, 2, none⟩ = some (.slice yb mb db))
      (refine ⟨?_, ?_, ?_, ?_, ?_, ?_⟩ <;> repeat (with_reducible first | assumption | refine kCd ?_ | refine kCa ?_ | refine kCs (by simp only [ne_eq]; omega) ?_ | refine kCb (by assumption) ?_))
      (first
        | (go_at_call 56; with_reducible refine (C1.out _ (by repeat (with_reducible first | assumption | exact Below.refl _ _ | refine Below.drew ?_ | refine kBa ?_ | refine kBb (by assumption) ?_))).mono ?_; rintro e v3 ⟨rfl, hb3⟩; have hza := hb3.size; (try simp at hza); obtain ⟨hc3, hf3⟩ := bcell hb3; (try have q100 : w1.heap.size < v3.heap.size := by omega))
        | (go_at_call 64; with_reducible refine (C2.out _ (by repeat (with_reducible first | assumption | exact Below.refl _ _ | refine Below.drew ?_ | refine kBa ?_ | refine kBb (by assumption) ?_))).mono ?_; rintro e v4 ⟨rfl, hb4⟩; have hzb := hb4.size; (try simp at hzb); obtain ⟨hc4, hf4⟩ := bcell hb4; (try have q100 : w1.heap.size < v4.heap.size := by omega); (try have q102 : v3.heap.size < v4.heap.size := by omega))
        | (go_at_call 63; with_reducible refine (C3.out _ (by repeat (with_reducible first | assumption | exact Below.refl _ _ | refine Below.drew ?_ | refine kBa ?_ | refine kBb (by assumption) ?_))).mono ?_; rintro e v5 ⟨r1, p1, k1, c1, q, rfl, hb5, HD⟩; have hzc := hb5.size; (try simp at hzc); obtain ⟨hc5, hf5⟩ := bcell hb5; (try have q100 : w1.heap.size < v5.heap.size := by omega); (try have q102 : v3.heap.size < v5.heap.size := by omega); (try have q104 : v4.heap.size < v5.heap.size := by omega)))
    all_goals
      go_wp2_with fail
      go_meet
      refine ⟨_, _, r1, p1, k1, c1, rfl, rfl, rfl, prod_of (by assumption) (by assumption) (by repeat (with_reducible first | assumption | exact Below.refl _ _ | refine Below.drew ?_ | refine kBa ?_ | refine kBb (by assumption) ?_)) HD.out (by repeat (with_reducible first | exact Turned.refl _ _ _ | refine Turned.drew ?_ | refine Turned.alloc ?_ _ | refine Turned.set ?_ (by first | omega | (simp; done) | (simp; omega)) (by first | omega | (simp; done) | (simp; omega)) _)) ⟨(by first | omega | (simp; done) | (simp; omega)), (by repeat (with_reducible first | assumption | exact kN0 | exact kN1 | (refine kM0 ?_; (simp <;> fail)) | (refine kM1 ?_; (simp <;> fail)) | exact kI0 kN0 | exact kI0 kN1 | (refine kI0 (kM0 ?_); (simp <;> fail)) | (refine kI0 (kM1 ?_); (simp <;> fail)) | refine kCd ?_ | refine kCe ?_ | refine kCo (by decide) ?_ | refine kCs (by simp only [ne_eq]; omega) ?_ | refine kCa ?_ | refine kCb (by assumption) ?_ | refine kId ?_ | refine kIs ?_ | refine kIa ?_ | refine kIb (by assumption) ?_)), (by repeat (with_reducible first | assumption | exact kN0 | exact kN1 | (refine kM0 ?_; (simp <;> fail)) | (refine kM1 ?_; (simp <;> fail)) | exact kI0 kN0 | exact kI0 kN1 | (refine kI0 (kM0 ?_); (simp <;> fail)) | (refine kI0 (kM1 ?_); (simp <;> fail)) | refine kCd ?_ | refine kCe ?_ | refine kCo (by decide) ?_ | refine kCs (by simp only [ne_eq]; omega) ?_ | refine kCa ?_ | refine kCb (by assumption) ?_ | refine kId ?_ | refine kIs ?_ | refine kIa ?_ | refine kIb (by assumption) ?_))⟩⟩
  case rest =>
    obtain ⟨w2, bX, sX, zX, kX, cX, rfl, rfl, rfl, hbx, hb, ⟨fX, hwn⟩, hleX⟩ := hcut
    have BX2 := hid hbx; have WX2 := hid hwn
    clear hbx hwn za zb x0 x1 x2 y0 y1 y2 C1 C2 C3
    have BA2 := hid (BA1.out.below hb); have BB2 := hid (BB1.out.below hb); have RA2 := hid (RA1.out.below hb); have RB2 := hid (RB1.out.below hb); have HW2 := hid (HW1.out.trans (hb.mono HW1.out.size))
    clear BA1 BB1 RA1 RB1 HW1 hb
    obtain ⟨za, x0, x1, x2⟩ := BA2.out
    obtain ⟨zb, y0, y1, y2⟩ := BB2.out
    have C1 : Hid (∀ W, Below w2.heap.size w2 W → Calls Tryz.prog 56 #[.agg #[.bool sb, .slice xb nb cb, .slice yb mb db]] W fun e w' => e = .returned (.agg #[.bool sb, .slice xb nb cb]) ∧ Below W.heap.size W w') := fun W _ => numer_c sb xb yb nb cb mb db W
    have C2 : Hid (∀ W, Below w2.heap.size w2 W → Calls Tryz.prog 64 #[.agg #[.bool sa, .slice xa na ca, .slice ya ma da]] W fun e w' => e = .returned (.agg #[.bool false, .slice ya ma da]) ∧ Below W.heap.size W w') := fun W _ => denom_c sa xa ya na ca ma da W
    have C3 : Hid (∀ W, Below w2.heap.size w2 W → Calls Tryz.prog 63 #[.agg #[.bool sb, .slice xb nb cb], .agg #[.bool false, .slice ya ma da]] W fun e w' => ∃ r1 p1 k1 c1 q, e = .returned (.tuple #[.agg #[.bool r1, .slice p1 k1 c1], .int .i64 0]) ∧ Below W.heap.size W w' ∧ Hid (WRes (nb + ma) W w' r1 p1 k1 c1 q ∧ wv r1 q k1 = b.num * a.den)) := fun W hW => by
      have h1 := (RB2.out.below hW).num; have h2 := (RA2.out.below hW).den
      refine (wMul_c sb false xb ya nb ma cb da fb ga W (by omega) (by omega) h1.cap.1 h2.cap.1 h1.cap.2 h2.cap.2 h1.rd h2.rd h1.lm h2.lm).mono ?_
      rintro e w' ⟨r, z, k, e', h, er, rfl, hres, hans⟩
      obtain ⟨rfl, hv⟩ := hans.ok ⟨h1.wf, h2.wf⟩
      exact ⟨r, z, k, e', h, rfl, hres.res.bel, hres, by rw [hv, h1.val, h2.val]⟩
    go_upto_region 4 with fail
    go_cut [8, 9] from 26 to 33 (fun u t wx => ∃ (wy : World) (b4 : Nat) (s : Bool) (z : Option Addr) (k c : Nat), wy = wx ∧ u = .pointer (some ⟨b4, 0, none⟩) ∧ t = .int .i64 0 ∧ FlAt (2 * L) w2 wy b4 s z k c (b.num * a.den))
    case first =>
      go_region_held3 (fun w' => w'.cell? ⟨w.heap.size, 0, none⟩ = some (.bool sa) ∧ w'.cell? ⟨w.heap.size, 1, none⟩ = some (.slice xa na ca) ∧ w'.cell? ⟨w.heap.size, 2, none⟩ = some (.slice ya ma da) ∧ w'.cell? ⟨w.heap.size + 1, 0, none⟩ = some (.bool sb) ∧ w'.cell? ⟨w.heap.size + 1, 1, none⟩ = some (.slice xb nb cb) ∧ w'.cell? ⟨w.heap.size + 1, 2, none⟩ = some (.slice yb mb db))
        (refine ⟨?_, ?_, ?_, ?_, ?_, ?_⟩ <;> repeat (with_reducible first | assumption | refine kCd ?_ | refine kCa ?_ | refine kCs (by simp only [ne_eq]; omega) ?_ | refine kCb (by assumption) ?_))
        (first
          | (go_at_call 56; with_reducible refine (C1.out _ (by repeat (with_reducible first | assumption | exact Below.refl _ _ | refine Below.drew ?_ | refine kBa ?_ | refine kBb (by assumption) ?_))).mono ?_; rintro e v3 ⟨rfl, hb3⟩; have hza := hb3.size; (try simp at hza); obtain ⟨hc3, hf3⟩ := bcell hb3; (try have q100 : w2.heap.size < v3.heap.size := by omega))
          | (go_at_call 64; with_reducible refine (C2.out _ (by repeat (with_reducible first | assumption | exact Below.refl _ _ | refine Below.drew ?_ | refine kBa ?_ | refine kBb (by assumption) ?_))).mono ?_; rintro e v4 ⟨rfl, hb4⟩; have hzb := hb4.size; (try simp at hzb); obtain ⟨hc4, hf4⟩ := bcell hb4; (try have q100 : w2.heap.size < v4.heap.size := by omega); (try have q102 : v3.heap.size < v4.heap.size := by omega))
          | (go_at_call 63; with_reducible refine (C3.out _ (by repeat (with_reducible first | assumption | exact Below.refl _ _ | refine Below.drew ?_ | refine kBa ?_ | refine kBb (by assumption) ?_))).mono ?_; rintro e v5 ⟨r1, p1, k1, c1, q, rfl, hb5, HD⟩; have hzc := hb5.size; (try simp at hzc); obtain ⟨hc5, hf5⟩ := bcell hb5; (try have q100 : w2.heap.size < v5.heap.size := by omega); (try have q102 : v3.heap.size < v5.heap.size := by omega); (try have q104 : v4.heap.size < v5.heap.size := by omega)))
      all_goals
        go_wp2_with fail
        go_meet
        refine ⟨_, _, r1, p1, k1, c1, rfl, rfl, rfl, prod_of (by assumption) (by assumption) (by repeat (with_reducible first | assumption | exact Below.refl _ _ | refine Below.drew ?_ | refine kBa ?_ | refine kBb (by assumption) ?_)) HD.out (by repeat (with_reducible first | exact Turned.refl _ _ _ | refine Turned.drew ?_ | refine Turned.alloc ?_ _ | refine Turned.set ?_ (by first | omega | (simp; done) | (simp; omega)) (by first | omega | (simp; done) | (simp; omega)) _)) ⟨(by first | omega | (simp; done) | (simp; omega)), (by repeat (with_reducible first | assumption | exact kN0 | exact kN1 | (refine kM0 ?_; (simp <;> fail)) | (refine kM1 ?_; (simp <;> fail)) | exact kI0 kN0 | exact kI0 kN1 | (refine kI0 (kM0 ?_); (simp <;> fail)) | (refine kI0 (kM1 ?_); (simp <;> fail)) | refine kCd ?_ | refine kCe ?_ | refine kCo (by decide) ?_ | refine kCs (by simp only [ne_eq]; omega) ?_ | refine kCa ?_ | refine kCb (by assumption) ?_ | refine kId ?_ | refine kIs ?_ | refine kIa ?_ | refine kIb (by assumption) ?_)), (by repeat (with_reducible first | assumption | exact kN0 | exact kN1 | (refine kM0 ?_; (simp <;> fail)) | (refine kM1 ?_; (simp <;> fail)) | exact kI0 kN0 | exact kI0 kN1 | (refine kI0 (kM0 ?_); (simp <;> fail)) | (refine kI0 (kM1 ?_); (simp <;> fail)) | refine kCd ?_ | refine kCe ?_ | refine kCo (by decide) ?_ | refine kCs (by simp only [ne_eq]; omega) ?_ | refine kCa ?_ | refine kCb (by assumption) ?_ | refine kId ?_ | refine kIs ?_ | refine kIa ?_ | refine kIb (by assumption) ?_))⟩⟩
    case rest =>
      obtain ⟨w3, bY, sY, zY, kY, cY, rfl, rfl, rfl, hby, hb, ⟨fY, hwy⟩, hleY⟩ := hcut
      have BY3 := hid hby; have WY3 := hid hwy
      clear hby hwy za zb x0 x1 x2 y0 y1 y2 C1 C2 C3
      have BX3 := hid (BX2.out.below hb); have WX3 := hid (WX2.out.below hb); have HW3 := hid (HW2.out.trans (hb.mono HW2.out.size))
      clear BX2 WX2 HW2 hb
      obtain ⟨zx, x0, x1⟩ := BX3.out
      obtain ⟨zy, y0, y1⟩ := BY3.out
      go_wp2_with fail
      refine (wCmp_c sX sY zX zY kX kY cX cY fX fY _ (by omega) (by omega) WX3.out.rd WY3.out.rd WX3.out.lm WY3.out.lm).mono ?_
      rintro e w4 ⟨cc, er, rfl, hb, hcm⟩
      have hcc : er = 0 ∧ ROrd cc a b := by
        rcases hcm with ⟨_, h1, h2⟩ | ⟨h1, _⟩
        · rw [WX3.out.val, WY3.out.val] at h2
          exact ⟨h1, rord_of h2⟩
        · exact absurd ⟨WX3.out.wf, WY3.out.wf⟩ h1
      obtain ⟨rfl, hord⟩ := hcc
      have HO := hid hord; have HW4 := hid (HW3.out.trans (hb.mono HW3.out.size))
      clear hcm hord hb
      go_wp2
      go_ret2
      exact ⟨cc, rfl, HW4.out, HO.out⟩
end Go.Proofs.YtndiiknbkjlbiaaGreatDoor
namespace Go.Proofs.YtndiiknbkjlbiaaGreatDoor
open Go.RowKit

theorem rfrac {v : Int} {s : Bool} {D : Nat} (hv : v = sg s v.natAbs) (hD : 0 < D) :
    ((v : Rat) / ((D : Int) : Rat)).num = sg s (v.natAbs / v.natAbs.gcd D) ∧ ((v : Rat) / ((D : Int) : Rat)).den = D / v.natAbs.gcd D := by
  have hG : 0 < v.natAbs.gcd D := Nat.gcd_pos_of_pos_right _ hD
  have e1 : v.natAbs / v.natAbs.gcd D * v.natAbs.gcd D = v.natAbs := Nat.div_mul_cancel (Nat.gcd_dvd_left _ _)
  have e2 : D / v.natAbs.gcd D * v.natAbs.gcd D = D := Nat.div_mul_cancel (Nat.gcd_dvd_right _ _)
  have h := rmake (s := s) (t := false) (NA := v.natAbs / v.natAbs.gcd D) (NB := D / v.natAbs.gcd D) (G := v.natAbs.gcd D) (by rw [e2]; exact hD) (by rw [e1, e2])
  rw [e1, e2, ← hv] at h
  simpa [sg] using h
theorem radd_frac (a b : Rat) : a + b = ((a.num * b.den + b.num * a.den : Int) : Rat) / (((a.den * b.den : Nat) : Int) : Rat) := by
  have ha : (a.den : Int) ≠ 0 := by have := a.den_pos; omega
  have hb : (b.den : Int) ≠ 0 := by have := b.den_pos; omega
  have h := Rat.divInt_add_divInt a.num b.num ha hb
  rw [Rat.num_divInt_den, Rat.num_divInt_den] at h
  rw [h, Rat.divInt_eq_div]
  simp
theorem rmul_frac (a b : Rat) : a * b = ((a.num * b.num : Int) : Rat) / (((a.den * b.den : Nat) : Int) : Rat) := by
  have h := Rat.divInt_mul_divInt a.num b.num (d₁ := a.den) (d₂ := b.den)
  rw [Rat.num_divInt_den, Rat.num_divInt_den] at h
  rw [h, Rat.divInt_eq_div]
  simp
theorem sub_ord {c : Int} {a b : Rat} (h : Ord c (a - b).num 0) : ROrd c a b := by
  rcases h with ⟨h1, h2⟩ | ⟨h1, h2⟩ | ⟨h1, h2⟩
  · left; refine ⟨h1, ?_⟩
    have : a - b < 0 := (Rat.lt_iff _ _).2 (by simp; exact h2)
    grind
  · right; left; refine ⟨h1, ?_⟩
    have : a - b = 0 := Rat.num_eq_zero.1 h2
    grind
  · right; right; refine ⟨h1, ?_⟩
    have : 0 < a - b := (Rat.lt_iff _ _).2 (by simp; exact h2)
    grind
theorem qbox2 {w : World} (a0 a1 a2 b0 b1 b2 : Value) (t : TypeId) :
    Bx3 (((w.alloc (.cells #[a0, a1, a2] t)).alloc (.cells #[b0, b1, b2] t)).alloc (.cells #[.bool false, .slice none 0 0, .slice none 0 0] t)) w.heap.size a0 a1 a2 ∧ Bx3 (((w.alloc (.cells #[a0, a1, a2] t)).alloc (.cells #[b0, b1, b2] t)).alloc (.cells #[.bool false, .slice none 0 0, .slice none 0 0] t)) (w.heap.size + 1) b0 b1 b2 ∧ Ob (((w.alloc (.cells #[a0, a1, a2] t)).alloc (.cells #[b0, b1, b2] t)).alloc (.cells #[.bool false, .slice none 0 0, .slice none 0 0] t)) (w.heap.size + 1 + 1) ∧ Below w.heap.size w (((w.alloc (.cells #[a0, a1, a2] t)).alloc (.cells #[b0, b1, b2] t)).alloc (.cells #[.bool false, .slice none 0 0, .slice none 0 0] t)) := by
  have h1 := bx3_at w a0 a1 a2 t
  have h2 := bx3_at (w.alloc (.cells #[a0, a1, a2] t)) b0 b1 b2 t
  rw [size_alloc1] at h2
  have h3 := ob_new ((w.alloc (.cells #[a0, a1, a2] t)).alloc (.cells #[b0, b1, b2] t)) t
  rw [size_alloc1, size_alloc1] at h3
  exact ⟨(h1.alloc _).alloc _, h2.alloc _, h3, below_alloc (below_alloc (below_alloc (Below.refl w.heap.size w) _) _) _⟩
theorem mkZn_c {w : World} {z : Option Addr} {k c : Nat} {d : Nat → Int} {V : Nat} (h : Dn w z k d V) (hk : k ≤ 100000) :
    Calls Tryz.prog 69 #[.bool false, .slice z k c] w fun e w' => ∃ r, e = .returned (.agg #[.bool r, .slice z k c]) ∧ Below w.heap.size w w' ∧ Hid (Zn w' r z k d (V : Int)) :=
  (mkZ_c hk).mono (fun _ _ ⟨r, h1, h2, h3⟩ => ⟨r, h1, h2, Zn.of (s := false) (h.below h2) h3⟩)
/-- Mk, on a whole number over one above 0. -/
theorem mkQn_c {w : World} {s : Bool} {x : Option Addr} {n c : Nat} {d : Nat → Int} {v : Int} {y : Option Addr} {m e : Nat} {g : Nat → Int} {D : Nat} (ha : Zn w s x n d v) (hb : Dn w y m g D) (hn : n ≤ 4096) (hm : m ≤ 4096) (hD : 0 < D) :
    Calls Tryz.prog 73 #[.agg #[.bool s, .slice x n c], .slice y m e] w fun en w' => ∃ s' x' n' c1 d' y' m' c2 g', en = .returned (.agg #[.bool s', .slice x' n' c1, .slice y' m' c2]) ∧ Below w.heap.size w w' ∧ Hid (n' ≤ n + 2 ∧ m' ≤ m + 2 ∧ Qn w' s' x' n' d' y' m' g' ((v : Rat) / ((D : Int) : Rat))) := by
  refine (mkQ_c ha.dn hb ha.pos hn hm hD).mono ?_
  rintro en w' ⟨r, z, k, c', d', z2, k2, c2, d2, rfl, h2, h3, h4, h5, h6, h7⟩
  obtain ⟨e1, e2⟩ := rfrac ha.sgn hD
  have hz := Zn.of h6 h5
  rw [← e1] at hz
  rw [← e2] at h7
  exact ⟨r, z, k, c', d', z2, k2, c2, d2, rfl, h2, h3, h4, hz, h7⟩

set_option maxRecDepth 100000 in
set_option maxHeartbeats 16000000 in
theorem qAdd_c {w : World} {sa : Bool} {xa : Option Addr} {na ca : Nat} {da : Nat → Int} {ya : Option Addr} {ma ea : Nat} {ga : Nat → Int} {qa : Rat} {sb : Bool} {xb : Option Addr} {nb cb : Nat} {db : Nat → Int} {yb : Option Addr} {mb eb : Nat} {gb : Nat → Int} {qb : Rat} (ha : Qn w sa xa na da ya ma ga qa) (hb : Qn w sb xb nb db yb mb gb qb) (hna : na ≤ 1000) (hma : ma ≤ 1000) (hnb : nb ≤ 1000) (hmb : mb ≤ 1000) :
    Calls Tryz.prog 48 #[.agg #[.bool sa, .slice xa na ca, .slice ya ma ea], .agg #[.bool sb, .slice xb nb cb, .slice yb mb eb]] w fun e w' => QAns (na + ma + nb + mb + 3) w w' e (qa + qb) := by
  obtain ⟨h1, h2, h3, h4⟩ := qbox2 (w := w) (.bool sa) (.slice xa na ca) (.slice ya ma ea) (.bool sb) (.slice xb nb cb) (.slice yb mb eb) 72
  have h5 := ((ha.alloc (.cells #[.bool sa, .slice xa na ca, .slice ya ma ea] 72)).alloc (.cells #[.bool sb, .slice xb nb cb, .slice yb mb eb] 72)).alloc (.cells #[.bool false, .slice none 0 0, .slice none 0 0] 72)
  have h6 := ((hb.alloc (.cells #[.bool sa, .slice xa na ca, .slice ya ma ea] 72)).alloc (.cells #[.bool sb, .slice xb nb cb, .slice yb mb eb] 72)).alloc (.cells #[.bool false, .slice none 0 0, .slice none 0 0] 72)
  clear ha hb
  go_enter Tryz.func48, Tryz.ntmps48
  go_wp2_with fail
  generalize ((w.alloc (.cells #[.bool sa, .slice xa na ca, .slice ya ma ea] 72)).alloc (.cells #[.bool sb, .slice xb nb cb, .slice yb mb eb] 72)).alloc (.cells #[.bool false, .slice none 0 0, .slice none 0 0] 72) = w1 at *
  have HA := hid h5; have HB := hid h6; have OB := hid h3; have HW := hid h4
  obtain ⟨za, a0, a1, a2⟩ := h1
  obtain ⟨zb, b0, b1, b2⟩ := h2
  obtain ⟨hz, z0, z1, z2, zf⟩ := h3
  clear h4 h5 h6
  have HD := hid (show 0 < qa.den * qb.den from Nat.mul_pos qa.den_pos qb.den_pos)
  have C1 : Hid (∀ W, Below w1.heap.size w1 W → Calls Tryz.prog 69 #[.bool false, .slice yb mb eb] W fun e w' => ∃ r, e = .returned (.agg #[.bool r, .slice yb mb eb]) ∧ Below W.heap.size W w' ∧ Hid (Zn w' r yb mb gb (qb.den : Int))) := fun W hW => mkZn_c (HB.out.den.below hW) (by omega)
  have C2 : Hid (∀ (W : World) (r : Bool), Below w1.heap.size w1 W → Zn W r yb mb gb (qb.den : Int) → Calls Tryz.prog 87 #[.agg #[.bool sa, .slice xa na ca], .agg #[.bool r, .slice yb mb eb]] W fun e w' => ∃ s x n c d, e = .returned (.agg #[.bool s, .slice x n c]) ∧ Below W.heap.size W w' ∧ Hid (n ≤ na + mb ∧ Zn w' s x n d (qa.num * qb.den))) := fun W r hW h => zMulE_c (HA.out.num.below hW) h (by omega) (by omega)
  have C3 : Hid (∀ W, Below w1.heap.size w1 W → Calls Tryz.prog 69 #[.bool false, .slice ya ma ea] W fun e w' => ∃ r, e = .returned (.agg #[.bool r, .slice ya ma ea]) ∧ Below W.heap.size W w' ∧ Hid (Zn w' r ya ma ga (qa.den : Int))) := fun W hW => mkZn_c (HA.out.den.below hW) (by omega)
  have C4 : Hid (∀ (W : World) (r : Bool), Below w1.heap.size w1 W → Zn W r ya ma ga (qa.den : Int) → Calls Tryz.prog 87 #[.agg #[.bool sb, .slice xb nb cb], .agg #[.bool r, .slice ya ma ea]] W fun e w' => ∃ s x n c d, e = .returned (.agg #[.bool s, .slice x n c]) ∧ Below W.heap.size W w' ∧ Hid (n ≤ nb + ma ∧ Zn w' s x n d (qb.num * qa.den))) := fun W r hW h => zMulE_c (HB.out.num.below hW) h (by omega) (by omega)
  have C5 : Hid (∀ (W : World) (s5 : Bool) (x5 : Option Addr) (n5 c5 : Nat) (d5 : Nat → Int) (s6 : Bool) (x6 : Option Addr) (n6 c6 : Nat) (d6 : Nat → Int), n5 ≤ na + mb → n6 ≤ nb + ma → Zn W s5 x5 n5 d5 (qa.num * qb.den) → Zn W s6 x6 n6 d6 (qb.num * qa.den) → Calls Tryz.prog 86 #[.agg #[.bool s5, .slice x5 n5 c5], .agg #[.bool s6, .slice x6 n6 c6]] W fun e w' => ∃ s x n c d, e = .returned (.agg #[.bool s, .slice x n c]) ∧ Below W.heap.size W w' ∧ Hid (n ≤ na + ma + nb + mb + 1 ∧ Zn w' s x n d (qa.num * qb.den + qb.num * qa.den))) := fun W s5 x5 n5 c5 d5 s6 x6 n6 c6 d6 h1 h2 h3 h4 => (zAdd_c h3 h4 (by omega) (by omega)).mono (fun _ _ ⟨s, x, n, c, d, h1, h2, h3, h4⟩ => ⟨s, x, n, c, d, h1, h2, by omega, h4⟩)
  have C6 : Hid (∀ W, Below w1.heap.size w1 W → Calls Tryz.prog 88 #[.slice ya ma ea, .slice yb mb eb] W fun e w' => ∃ z k c' q, e = .returned (.slice z k c') ∧ Below W.heap.size W w' ∧ Hid (k ≤ ma + mb ∧ Dn w' z k q (qa.den * qb.den))) := fun W hW => dMul_c (HA.out.den.below hW) (HB.out.den.below hW) (by omega) (by omega)
  have C7 : Hid (∀ (W : World) (s : Bool) (x : Option Addr) (n c : Nat) (d : Nat → Int) (y : Option Addr) (m e : Nat) (g : Nat → Int), n ≤ na + ma + nb + mb + 1 → m ≤ ma + mb → Zn W s x n d (qa.num * qb.den + qb.num * qa.den) → Dn W y m g (qa.den * qb.den) → Calls Tryz.prog 73 #[.agg #[.bool s, .slice x n c], .slice y m e] W fun en w' => ∃ s' x' n' c1 d' y' m' c2 g', en = .returned (.agg #[.bool s', .slice x' n' c1, .slice y' m' c2]) ∧ Below W.heap.size W w' ∧ Hid (n' ≤ na + ma + nb + mb + 3 ∧ m' ≤ na + ma + nb + mb + 3 ∧ Qn w' s' x' n' d' y' m' g' (qa + qb))) := fun W s x n c d y m e g h1 h2 h3 h4 => (mkQn_c h3 h4 (by omega) (by omega) HD.out).mono (fun _ _ ⟨s', x', n', c1, d', y', m', c2, g', k1, k2, k3, k4, k5⟩ => ⟨s', x', n', c1, d', y', m', c2, g', k1, k2, by omega, by omega, by rw [radd_frac]; exact k5⟩)
  go_region_held3 (fun w' => w'.cell? ⟨w.heap.size, 0, none⟩ = some (.bool sa) ∧ w'.cell? ⟨w.heap.size, 1, none⟩ = some (.slice xa na ca) ∧ w'.cell? ⟨w.heap.size, 2, none⟩ = some (.slice ya ma ea) ∧ w'.cell? ⟨w.heap.size + 1, 0, none⟩ = some (.bool sb) ∧ w'.cell? ⟨w.heap.size + 1, 1, none⟩ = some (.slice xb nb cb) ∧ w'.cell? ⟨w.heap.size + 1, 2, none⟩ = some (.slice yb mb eb) ∧ (w'.cell? ⟨w.heap.size + 1 + 1, 0, none⟩).isSome = true ∧ (w'.cell? ⟨w.heap.size + 1 + 1, 1, none⟩).isSome = true ∧ (w'.cell? ⟨w.heap.size + 1 + 1, 2, none⟩).isSome = true ∧ w'.frozen? ⟨w.heap.size + 1 + 1, 0, none⟩ = false ∧ w'.frozen? ⟨w.heap.size + 1 + 1, 1, none⟩ = false ∧ w'.frozen? ⟨w.heap.size + 1 + 1, 2, none⟩ = false)
    (refine ⟨?_, ?_, ?_, ?_, ?_, ?_, ?_, ?_, ?_, ?_, ?_, ?_⟩ <;> repeat (with_reducible first | assumption | exact zf _ | exact tf _ | exact uf _ | exact vf _ | exact rf _ | exact of _ | exact kf _ | exact pf _ | exact kI0 z0 | exact kI0 z1 | exact kI0 z2 | exact kI0 t0 | exact kI0 t1 | exact kI0 t2 | exact kI0 u0 | exact kI0 u1 | exact kI0 u2 | exact kI0 v0 | exact kI0 v1 | exact kI0 v2 | exact kI0 r0 | exact kI0 r1 | exact kI0 r2 | exact kI0 o0 | exact kI0 o1 | exact kI0 o2 | exact kI0 k0 | exact kI0 k1 | exact kI0 k2 | exact kI0 p0 | exact kI0 p1 | exact kI0 p2 | refine kCd ?_ | refine kId ?_ | refine kFd ?_ | refine kCs (by simp only [ne_eq]; omega) ?_ | refine kIs ?_ | refine kFs ?_ | refine kCb (by assumption) ?_ | refine kIb (by assumption) ?_))
    (first
      | (go_at_call 69; with_reducible refine (C1.out _ (by repeat (with_reducible first | assumption | exact Below.refl _ _ | refine Below.drew ?_ | refine kBb (by assumption) ?_))).mono ?_; rintro e v1 ⟨r1, rfl, hv1, H1⟩; have Tt : Ob v1 (w.heap.size + 1 + 1) := (by repeat (with_reducible first | exact OB.out | exact Tt | exact Tu | exact Tv | exact Tr | exact To | exact Tk | exact Tp | refine Ob.drew ?_ | refine kOb (by assumption) ?_)); obtain ⟨_, t0, t1, t2, tf⟩ := id Tt)
      | (go_at_call 87; with_reducible refine (C2.out _ r1 (by repeat (with_reducible first | assumption | exact Below.refl _ _ | refine Below.drew ?_ | refine kBb (by assumption) ?_)) (by repeat (with_reducible first | exact H1.out | refine kZd ?_ | refine kZb (by assumption) ?_))).mono ?_; rintro e v2 ⟨s2, x2, n2, c2, d2, rfl, hv2, H2⟩; have Tu : Ob v2 (w.heap.size + 1 + 1) := (by repeat (with_reducible first | exact OB.out | exact Tt | exact Tu | exact Tv | exact Tr | exact To | exact Tk | exact Tp | refine Ob.drew ?_ | refine kOb (by assumption) ?_)); obtain ⟨_, u0, u1, u2, uf⟩ := id Tu)
      | (go_at_call 69; with_reducible refine (C3.out _ (by repeat (with_reducible first | assumption | exact Below.refl _ _ | refine Below.drew ?_ | refine kBb (by assumption) ?_))).mono ?_; rintro e v3 ⟨r3, rfl, hv3, H3⟩; have Tv : Ob v3 (w.heap.size + 1 + 1) := (by repeat (with_reducible first | exact OB.out | exact Tt | exact Tu | exact Tv | exact Tr | exact To | exact Tk | exact Tp | refine Ob.drew ?_ | refine kOb (by assumption) ?_)); obtain ⟨_, v0, v1, v2, vf⟩ := id Tv)
      | (go_at_call 87; with_reducible refine (C4.out _ r3 (by repeat (with_reducible first | assumption | exact Below.refl _ _ | refine Below.drew ?_ | refine kBb (by assumption) ?_)) (by repeat (with_reducible first | exact H3.out | refine kZd ?_ | refine kZb (by assumption) ?_))).mono ?_; rintro e v4 ⟨s4, x4, n4, c4, d4, rfl, hv4, H4⟩; have Tr : Ob v4 (w.heap.size + 1 + 1) := (by repeat (with_reducible first | exact OB.out | exact Tt | exact Tu | exact Tv | exact Tr | exact To | exact Tk | exact Tp | refine Ob.drew ?_ | refine kOb (by assumption) ?_)); obtain ⟨_, r0, r1, r2, rf⟩ := id Tr)
      | (go_at_call 86; with_reducible refine (C5.out _ s2 x2 n2 c2 d2 s4 x4 n4 c4 d4 H2.out.1 H4.out.1 (by repeat (with_reducible first | exact H2.out.2 | refine kZd ?_ | refine kZb (by assumption) ?_)) (by repeat (with_reducible first | exact H4.out.2 | refine kZd ?_ | refine kZb (by assumption) ?_))).mono ?_; rintro e v5 ⟨s5, x5, n5, c5, d5, rfl, hv5, H5⟩; have To : Ob v5 (w.heap.size + 1 + 1) := (by repeat (with_reducible first | exact OB.out | exact Tt | exact Tu | exact Tv | exact Tr | exact To | exact Tk | exact Tp | refine Ob.drew ?_ | refine kOb (by assumption) ?_)); obtain ⟨_, o0, o1, o2, of⟩ := id To)
      | (go_at_call 88; with_reducible refine (C6.out _ (by repeat (with_reducible first | assumption | exact Below.refl _ _ | refine Below.drew ?_ | refine kBb (by assumption) ?_))).mono ?_; rintro e v6 ⟨z6, k6, c6, d6, rfl, hv6, H6⟩; have Tk : Ob v6 (w.heap.size + 1 + 1) := (by repeat (with_reducible first | exact OB.out | exact Tt | exact Tu | exact Tv | exact Tr | exact To | exact Tk | exact Tp | refine Ob.drew ?_ | refine kOb (by assumption) ?_)); obtain ⟨_, k0, k1, k2, kf⟩ := id Tk)
      | (go_at_call 73; with_reducible refine (C7.out _ s5 x5 n5 c5 d5 z6 k6 c6 d6 H5.out.1 H6.out.1 (by repeat (with_reducible first | exact H5.out.2 | refine kZd ?_ | refine kZb (by assumption) ?_)) (by repeat (with_reducible first | exact H6.out.2 | refine Dn.drew ?_ | refine kDb (by assumption) ?_))).mono ?_; rintro e v8 ⟨s8, x8, n8, c8, d8, y8, m8, e8, g8, rfl, hv8, H8⟩; have Tp : Ob v8 (w.heap.size + 1 + 1) := (by repeat (with_reducible first | exact OB.out | exact Tt | exact Tu | exact Tv | exact Tr | exact To | exact Tk | exact Tp | refine Ob.drew ?_ | refine kOb (by assumption) ?_)); obtain ⟨_, p0, p1, p2, pf⟩ := id Tp))
  all_goals
    have hb : Below w1.heap.size w1 v8 := (by repeat (with_reducible first | assumption | exact Below.refl _ _ | refine Below.drew ?_ | refine kBb (by assumption) ?_))
    go_wp2
    exact bodyPost_ret (v := .agg #[.bool s8, .slice x8 n8 c8, .slice y8 m8 e8]) (by simp [results, Tryz.results48, go_sem, p0, p1, p2]) rfl ⟨s8, x8, n8, c8, d8, y8, m8, e8, g8, rfl, below_st (HW.out.trans (hb.mono HW.out.size)) (by omega), H8.out.1, H8.out.2.1, Tp.qn H8.out.2.2⟩

set_option maxRecDepth 100000 in
set_option maxHeartbeats 16000000 in
theorem qSub_c {w : World} {sa : Bool} {xa : Option Addr} {na ca : Nat} {da : Nat → Int} {ya : Option Addr} {ma ea : Nat} {ga : Nat → Int} {qa : Rat} {sb : Bool} {xb : Option Addr} {nb cb : Nat} {db : Nat → Int} {yb : Option Addr} {mb eb : Nat} {gb : Nat → Int} {qb : Rat} (ha : Qn w sa xa na da ya ma ga qa) (hb : Qn w sb xb nb db yb mb gb qb) (hna : na ≤ 1000) (hma : ma ≤ 1000) (hnb : nb ≤ 1000) (hmb : mb ≤ 1000) :
    Calls Tryz.prog 49 #[.agg #[.bool sa, .slice xa na ca, .slice ya ma ea], .agg #[.bool sb, .slice xb nb cb, .slice yb mb eb]] w fun e w' => QAns (na + ma + nb + mb + 3) w w' e (qa - qb) := by
  obtain ⟨h1, h2, h3, h4⟩ := qbox2 (w := w) (.bool sa) (.slice xa na ca) (.slice ya ma ea) (.bool sb) (.slice xb nb cb) (.slice yb mb eb) 72
  have h5 := ((ha.alloc (.cells #[.bool sa, .slice xa na ca, .slice ya ma ea] 72)).alloc (.cells #[.bool sb, .slice xb nb cb, .slice yb mb eb] 72)).alloc (.cells #[.bool false, .slice none 0 0, .slice none 0 0] 72)
  have h6 := ((hb.alloc (.cells #[.bool sa, .slice xa na ca, .slice ya ma ea] 72)).alloc (.cells #[.bool sb, .slice xb nb cb, .slice yb mb eb] 72)).alloc (.cells #[.bool false, .slice none 0 0, .slice none 0 0] 72)
  clear ha hb
  go_enter Tryz.func49, Tryz.ntmps49
  go_wp2_with fail
  generalize ((w.alloc (.cells #[.bool sa, .slice xa na ca, .slice ya ma ea] 72)).alloc (.cells #[.bool sb, .slice xb nb cb, .slice yb mb eb] 72)).alloc (.cells #[.bool false, .slice none 0 0, .slice none 0 0] 72) = w1 at *
  have HA := hid h5; have HB := hid h6; have OB := hid h3; have HW := hid h4
  obtain ⟨za, a0, a1, a2⟩ := h1
  obtain ⟨zb, b0, b1, b2⟩ := h2
  obtain ⟨hz, z0, z1, z2, zf⟩ := h3
  clear h4 h5 h6
  have C1 : Hid (∀ W, Below w1.heap.size w1 W → Calls Tryz.prog 54 #[.agg #[.bool sb, .slice xb nb cb, .slice yb mb eb]] W fun en w' => ∃ s' c', en = .returned (.agg #[.bool s', .slice xb nb c', .slice yb mb eb]) ∧ Below W.heap.size W w' ∧ Hid (Qn w' s' xb nb db yb mb gb (-qb))) := fun W hW => qNeg_c (HB.out.below hW) (by omega)
  have C2 : Hid (∀ (W : World) (s : Bool) (c : Nat), Below w1.heap.size w1 W → Qn W s xb nb db yb mb gb (-qb) → Calls Tryz.prog 48 #[.agg #[.bool sa, .slice xa na ca, .slice ya ma ea], .agg #[.bool s, .slice xb nb c, .slice yb mb eb]] W fun en w' => ∃ s' x' n' c1 d' y' m' c2 g', en = .returned (.agg #[.bool s', .slice x' n' c1, .slice y' m' c2]) ∧ Below W.heap.size W w' ∧ Hid (n' ≤ na + ma + nb + mb + 3 ∧ m' ≤ na + ma + nb + mb + 3 ∧ Qn w' s' x' n' d' y' m' g' (qa - qb))) := fun W s c hW h => (qAdd_c (HA.out.below hW) h hna hma hnb hmb).mono (fun _ _ ⟨s', x', n', c1, d', y', m', c2, g', k1, k2, k3, k4, k5⟩ => ⟨s', x', n', c1, d', y', m', c2, g', k1, k2, k3, k4, by rw [Rat.sub_eq_add_neg]; exact k5⟩)
  go_region_held3 (fun w' => w'.cell? ⟨w.heap.size, 0, none⟩ = some (.bool sa) ∧ w'.cell? ⟨w.heap.size, 1, none⟩ = some (.slice xa na ca) ∧ w'.cell? ⟨w.heap.size, 2, none⟩ = some (.slice ya ma ea) ∧ w'.cell? ⟨w.heap.size + 1, 0, none⟩ = some (.bool sb) ∧ w'.cell? ⟨w.heap.size + 1, 1, none⟩ = some (.slice xb nb cb) ∧ w'.cell? ⟨w.heap.size + 1, 2, none⟩ = some (.slice yb mb eb) ∧ (w'.cell? ⟨w.heap.size + 1 + 1, 0, none⟩).isSome = true ∧ (w'.cell? ⟨w.heap.size + 1 + 1, 1, none⟩).isSome = true ∧ (w'.cell? ⟨w.heap.size + 1 + 1, 2, none⟩).isSome = true ∧ w'.frozen? ⟨w.heap.size + 1 + 1, 0, none⟩ = false ∧ w'.frozen? ⟨w.heap.size + 1 + 1, 1, none⟩ = false ∧ w'.frozen? ⟨w.heap.size + 1 + 1, 2, none⟩ = false)
    (refine ⟨?_, ?_, ?_, ?_, ?_, ?_, ?_, ?_, ?_, ?_, ?_, ?_⟩ <;> repeat (with_reducible first | assumption | exact zf _ | exact tf _ | exact pf _ | exact kI0 z0 | exact kI0 z1 | exact kI0 z2 | exact kI0 t0 | exact kI0 t1 | exact kI0 t2 | exact kI0 p0 | exact kI0 p1 | exact kI0 p2 | refine kCd ?_ | refine kId ?_ | refine kFd ?_ | refine kCs (by simp only [ne_eq]; omega) ?_ | refine kIs ?_ | refine kFs ?_ | refine kCb (by assumption) ?_ | refine kIb (by assumption) ?_))
    (first
      | (go_at_call 54; with_reducible refine (C1.out _ (by repeat (with_reducible first | assumption | exact Below.refl _ _ | refine Below.drew ?_ | refine kBb (by assumption) ?_))).mono ?_; rintro e v1 ⟨r1, k1, rfl, hv1, H1⟩; have Tt : Ob v1 (w.heap.size + 1 + 1) := (by repeat (with_reducible first | exact OB.out | exact Tt | exact Tu | exact Tv | exact Tr | exact To | exact Tk | exact Tp | refine Ob.drew ?_ | refine kOb (by assumption) ?_)); obtain ⟨_, t0, t1, t2, tf⟩ := id Tt)
      | (go_at_call 48; with_reducible refine (C2.out _ r1 k1 (by repeat (with_reducible first | assumption | exact Below.refl _ _ | refine Below.drew ?_ | refine kBb (by assumption) ?_)) (by repeat (with_reducible first | exact H1.out | refine kQd ?_ | refine kQb (by assumption) ?_))).mono ?_; rintro e v8 ⟨s8, x8, n8, c8, d8, y8, m8, e8, g8, rfl, hv8, H8⟩; have Tp : Ob v8 (w.heap.size + 1 + 1) := (by repeat (with_reducible first | exact OB.out | exact Tt | exact Tu | exact Tv | exact Tr | exact To | exact Tk | exact Tp | refine Ob.drew ?_ | refine kOb (by assumption) ?_)); obtain ⟨_, p0, p1, p2, pf⟩ := id Tp))
  all_goals
    have hb : Below w1.heap.size w1 v8 := (by repeat (with_reducible first | assumption | exact Below.refl _ _ | refine Below.drew ?_ | refine kBb (by assumption) ?_))
    go_wp2
    exact bodyPost_ret (v := .agg #[.bool s8, .slice x8 n8 c8, .slice y8 m8 e8]) (by simp [results, Tryz.results49, go_sem, p0, p1, p2]) rfl ⟨s8, x8, n8, c8, d8, y8, m8, e8, g8, rfl, below_st (HW.out.trans (hb.mono HW.out.size)) (by omega), H8.out.1, H8.out.2.1, Tp.qn H8.out.2.2⟩

set_option maxRecDepth 100000 in
set_option maxHeartbeats 4000000 in
theorem qCmp_c {w : World} {sa : Bool} {xa : Option Addr} {na ca : Nat} {da : Nat → Int} {ya : Option Addr} {ma ea : Nat} {ga : Nat → Int} {qa : Rat} {sb : Bool} {xb : Option Addr} {nb cb : Nat} {db : Nat → Int} {yb : Option Addr} {mb eb : Nat} {gb : Nat → Int} {qb : Rat} (ha : Qn w sa xa na da ya ma ga qa) (hb : Qn w sb xb nb db yb mb gb qb) (hna : na ≤ 1000) (hma : ma ≤ 1000) (hnb : nb ≤ 1000) (hmb : mb ≤ 1000) :
    Calls Tryz.prog 66 #[.agg #[.bool sa, .slice xa na ca, .slice ya ma ea], .agg #[.bool sb, .slice xb nb cb, .slice yb mb eb]] w fun e w' => ∃ c, e = .returned (.int .i64 c) ∧ Below w.heap.size w w' ∧ ROrd c qa qb := by
  have h1 := bx3_at w (.bool sa) (.slice xa na ca) (.slice ya ma ea) 72
  have h2 := bx3_at (w.alloc (.cells #[.bool sa, .slice xa na ca, .slice ya ma ea] 72)) (.bool sb) (.slice xb nb cb) (.slice yb mb eb) 72
  rw [size_alloc1] at h2
  have h1 := h1.alloc (.cells #[.bool sb, .slice xb nb cb, .slice yb mb eb] 72)
  have h4 := below_alloc (below_alloc (Below.refl w.heap.size w) (.cells #[.bool sa, .slice xa na ca, .slice ya ma ea] 72)) (.cells #[.bool sb, .slice xb nb cb, .slice yb mb eb] 72)
  have h5 := (ha.alloc (.cells #[.bool sa, .slice xa na ca, .slice ya ma ea] 72)).alloc (.cells #[.bool sb, .slice xb nb cb, .slice yb mb eb] 72)
  have h6 := (hb.alloc (.cells #[.bool sa, .slice xa na ca, .slice ya ma ea] 72)).alloc (.cells #[.bool sb, .slice xb nb cb, .slice yb mb eb] 72)
  clear ha hb
  go_enter Tryz.func66, Tryz.ntmps66
  go_wp2_with fail
  generalize (w.alloc (.cells #[.bool sa, .slice xa na ca, .slice ya ma ea] 72)).alloc (.cells #[.bool sb, .slice xb nb cb, .slice yb mb eb] 72) = w1 at *
  refine (qSub_c h5 h6 hna hma hnb hmb).mono ?_
  rintro en w2 ⟨s, x, n, c, d, y, m, c', g, rfl, hb, hl1, hl2, hq⟩
  have HQ := hid hq; have HB := hid (h4.trans (hb.mono h4.size))
  clear h1 h2 h4 h5 h6 hb hq
  go_wp2_with fail
  refine (qSign_c HQ.out (by omega)).mono ?_
  rintro en w3 ⟨cc, rfl, hb, ho⟩
  have HO := hid ho; have HB3 := hid (HB.out.trans (hb.mono HB.out.size))
  clear hb ho
  go_wp2
  go_ret
  exact ⟨cc, rfl, HB3.out, sub_ord HO.out⟩
end Go.Proofs.YtndiiknbkjlbiaaGreatDoor
namespace Go.Proofs.YtndiiknbkjlbiaaGreatDoor
open Go.RowKit

/-- What Sign answers. -/
def SG (c er : Int) (p : Bool) (v : Int) : Prop := p = true ∧ er = 0 ∧ Ord c v 0 ∨ p = false ∧ er = 3 ∧ c = 0
theorem rf_wf {s f n g m} (h : rfB s f n g m = true) : wfB s f n = true := by
  simp only [rfB, Bool.and_eq_true] at h
  exact h.1

set_option maxRecDepth 100000 in
set_option maxHeartbeats 4000000 in
theorem rSign_g {w : World} {s : Bool} {x : Option Addr} {n c : Nat} {f : Nat → Int} {y : Option Addr} {m e : Nat} {g : Nat → Int} (h : Rw w x n c f y m e g) (hn : n ≤ 1000) (hm : m ≤ 1000) :
    Calls Tryz.prog 21 #[.agg #[.bool s, .slice x n c, .slice y m e]] w fun en w' => ∃ c er, en = .returned (.tuple #[.int .i64 c, .int .i64 er]) ∧ Below w.heap.size w w' ∧ SG c er (rfB s f n g m) (wv s f n) := by
  have h1 := bx3_at w (.bool s) (.slice x n c) (.slice y m e) 24
  have h3 := below_alloc (Below.refl w.heap.size w) (.cells #[.bool s, .slice x n c, .slice y m e] 24)
  have h4 := h.below h3
  clear h
  go_enter Tryz.func21, Tryz.ntmps21
  go_wp2_with fail
  generalize w.alloc (.cells #[.bool s, .slice x n c, .slice y m e] 24) = w1 at *
  have HR := hid h4; have HW := hid h3; have BX := hid h1
  clear h1 h3 h4
  have c1 := rForm_c (s := s) HR.out (by omega) (by omega)
  cases hp : rfB s f n g m
  · rw [hp] at c1
    refine c1.mono ?_
    rintro en w2 ⟨rfl, hb⟩
    have HB := hid (HW.out.trans (hb.mono HW.out.size))
    clear c1 hb
    go_wp2
    go_ret2
    exact ⟨0, 3, rfl, HB.out, .inr ⟨hp, rfl, rfl⟩⟩
  · rw [hp] at c1
    refine c1.mono ?_
    rintro en w2 ⟨rfl, hb⟩
    have HB2 := hid hb; have HB := hid (HW.out.trans (hb.mono HW.out.size)); have HR2 := hid (HR.out.below hb); have HP := hid hp
    clear c1 hb hp
    obtain ⟨z, x0, x1, x2⟩ := BX.out.below HB2.out
    have hwf := rf_wf HP.out
    have h0 := vf_nonneg HR.out.lx
    cases s
    · by_cases hn0 : n = 0
      · subst hn0
        go_wp2
        go_ret2
        exact ⟨0, 0, rfl, HB.out, .inl ⟨HP.out, rfl, .inr (.inl ⟨rfl, by rw [wv_false]; rfl⟩)⟩⟩
      · have hnd : ((n : Int) == 0) = false := by simp; omega
        have HV := hid (vf_pos HR.out.lx (fm_of_wfB hwf) (show 0 < n by omega))
        clear hwf h0
        go_wp2
        go_ret2
        exact ⟨1, 0, rfl, HB.out, .inl ⟨HP.out, rfl, .inr (.inr ⟨rfl, by rw [wv_false]; exact HV.out⟩)⟩⟩
    · have hnz : 0 < n := ((wfB_iff _ _ _).1 hwf).2 rfl
      have HV := hid (vf_pos HR.out.lx (fm_of_wfB hwf) hnz)
      clear hwf h0
      go_wp2
      go_ret2
      exact ⟨-1, 0, rfl, HB.out, .inl ⟨HP.out, rfl, .inl ⟨rfl, by have := HV.out; rw [wv_true]; omega⟩⟩⟩

set_option maxRecDepth 100000 in
set_option maxHeartbeats 4000000 in
theorem docSign_g {w : World} {s : Bool} {x : Option Addr} {n c : Nat} {f : Nat → Int} {y : Option Addr} {m e : Nat} {g : Nat → Int} (h : Rw w x n c f y m e g) (hn : n ≤ 1000) (hm : m ≤ 1000) :
    Calls Tryz.prog 22 #[.agg #[.bool s, .slice x n c, .slice y m e]] w fun en w' => ∃ c er, en = .returned (.tuple #[.int .i64 c, .int .i64 er]) ∧ Below w.heap.size w w' ∧ SG c er (rfB s f n g m) (wv s f n) := by
  have h1 := bx3_at w (.bool s) (.slice x n c) (.slice y m e) 24
  have h3 := below_alloc (Below.refl w.heap.size w) (.cells #[.bool s, .slice x n c, .slice y m e] 24)
  have h4 := h.below h3
  clear h
  go_enter Tryz.func22, Tryz.ntmps22
  go_wp2_with fail
  generalize w.alloc (.cells #[.bool s, .slice x n c, .slice y m e] 24) = w1 at *
  have HR := hid h4; have HW := hid h3; have BX := hid h1
  clear h1 h3 h4
  have c1 := qForm_c (s := s) HR.out (by omega) (by omega)
  cases hp : rfB s f n g m
  · rw [hp] at c1
    refine c1.mono ?_
    rintro en w2 ⟨rfl, hb⟩
    have HB := hid (HW.out.trans (hb.mono HW.out.size))
    clear c1 hb
    go_wp2
    go_ret2
    exact ⟨0, 3, rfl, HB.out, .inr ⟨hp, rfl, rfl⟩⟩
  · rw [hp] at c1
    refine c1.mono ?_
    rintro en w2 ⟨rfl, hb⟩
    have HB2 := hid hb; have HB := hid (HW.out.trans (hb.mono HW.out.size)); have HR2 := hid (HR.out.below hb); have HP := hid hp
    clear c1 hb hp
    obtain ⟨z, x0, x1, x2⟩ := BX.out.below HB2.out
    obtain ⟨q, hq⟩ := HR2.out.rn HP.out (L := 1000) hn hm
    have HQ := hid hq
    clear hq
    go_wp2_with fail
    refine (qFrom_c HQ.out (by omega)).mono ?_
    rintro en w3 ⟨s3, x3, n3, c3, d3, y3, m3, e3, g3, rfl, hb, hl1, hl2, hq⟩
    have HB3 := hid (HB.out.trans (hb.mono HB.out.size)); have HQ3 := hid hq
    clear hb hq
    go_wp2_with fail
    refine (qSign_c HQ3.out (by omega)).mono ?_
    rintro en w4 ⟨cc, rfl, hb, ho⟩
    have HB4 := hid (HB3.out.trans (hb.mono HB3.out.size)); have HO := hid ho
    clear hb ho
    go_wp2
    go_ret2
    exact ⟨cc, 0, rfl, HB4.out, .inl ⟨HP.out, rfl, by have := HO.out; rw [← HQ.out.num.val] at this; exact this⟩⟩

set_option maxRecDepth 100000 in
set_option maxHeartbeats 4000000 in
theorem rCmpErr_c {w : World} {sa : Bool} {xa : Option Addr} {na ca : Nat} {fa : Nat → Int} {ya : Option Addr} {ma ea : Nat} {ga : Nat → Int} {sb : Bool} {xb : Option Addr} {nb cb : Nat} {fb : Nat → Int} {yb : Option Addr} {mb eb : Nat} {gb : Nat → Int} (ha : Rw w xa na ca fa ya ma ea ga) (hb : Rw w xb nb cb fb yb mb eb gb) (hna : na ≤ 1000) (hma : ma ≤ 1000) (hnb : nb ≤ 1000) (hmb : mb ≤ 1000) (hp : (rfB sa fa na ga ma && rfB sb fb nb gb mb) = false) :
    Calls Tryz.prog 19 #[.agg #[.bool sa, .slice xa na ca, .slice ya ma ea], .agg #[.bool sb, .slice xb nb cb, .slice yb mb eb]] w fun en w' => en = .returned (.tuple #[.int .i64 0, .int .i64 3]) ∧ Below w.heap.size w w' := by
  have h1 := (bx3_at w (.bool sa) (.slice xa na ca) (.slice ya ma ea) 24).alloc (.cells #[.bool sb, .slice xb nb cb, .slice yb mb eb] 24)
  have h2 := bx3_at (w.alloc (.cells #[.bool sa, .slice xa na ca, .slice ya ma ea] 24)) (.bool sb) (.slice xb nb cb) (.slice yb mb eb) 24
  rw [size_alloc1] at h2
  have h4 := below_alloc (below_alloc (Below.refl w.heap.size w) (.cells #[.bool sa, .slice xa na ca, .slice ya ma ea] 24)) (.cells #[.bool sb, .slice xb nb cb, .slice yb mb eb] 24)
  have h5 := ha.below h4
  have h6 := hb.below h4
  clear ha hb
  go_enter Tryz.func19, Tryz.ntmps19
  go_wp2_with fail
  generalize (w.alloc (.cells #[.bool sa, .slice xa na ca, .slice ya ma ea] 24)).alloc (.cells #[.bool sb, .slice xb nb cb, .slice yb mb eb] 24) = w1 at *
  have HRA := hid h5; have HRB := hid h6; have HW := hid h4; have BA := hid h1; have BB := hid h2
  clear h1 h2 h4 h5 h6
  have c1 := rForm_c (s := sa) HRA.out (by omega) (by omega)
  cases h1 : rfB sa fa na ga ma
  · rw [h1] at c1
    refine c1.mono ?_
    rintro en w2 ⟨rfl, hb⟩
    have HB := hid (HW.out.trans (hb.mono HW.out.size))
    clear c1 hb hp
    go_wp2
    go_ret2
    exact ⟨rfl, HB.out⟩
  rw [h1] at c1
  refine c1.mono ?_
  rintro en w2 ⟨rfl, hb⟩
  have h2 : rfB sb fb nb gb mb = false := by rw [h1] at hp; simpa using hp
  have HB2 := hid hb
  clear c1 hb hp h1
  obtain ⟨zb, b0, b1, b2⟩ := BB.out.below HB2.out
  have c2 := rForm_c (s := sb) (HRB.out.below HB2.out) (by omega) (by omega)
  rw [h2] at c2
  go_wp2_with fail
  refine c2.mono ?_
  rintro en w3 ⟨rfl, hb⟩
  have HB3 := hid (HW.out.trans ((HB2.out.trans (hb.mono HB2.out.size)).mono HW.out.size))
  clear c2 hb h2
  go_wp2
  go_ret2
  exact ⟨rfl, HB3.out⟩

set_option maxRecDepth 100000 in
set_option maxHeartbeats 4000000 in
theorem docCmpErr_c {w : World} {sa : Bool} {xa : Option Addr} {na ca : Nat} {fa : Nat → Int} {ya : Option Addr} {ma ea : Nat} {ga : Nat → Int} {sb : Bool} {xb : Option Addr} {nb cb : Nat} {fb : Nat → Int} {yb : Option Addr} {mb eb : Nat} {gb : Nat → Int} (ha : Rw w xa na ca fa ya ma ea ga) (hb : Rw w xb nb cb fb yb mb eb gb) (hna : na ≤ 1000) (hma : ma ≤ 1000) (hnb : nb ≤ 1000) (hmb : mb ≤ 1000) (hp : (rfB sa fa na ga ma && rfB sb fb nb gb mb) = false) :
    Calls Tryz.prog 20 #[.agg #[.bool sa, .slice xa na ca, .slice ya ma ea], .agg #[.bool sb, .slice xb nb cb, .slice yb mb eb]] w fun en w' => en = .returned (.tuple #[.int .i64 0, .int .i64 3]) ∧ Below w.heap.size w w' := by
  have h1 := (bx3_at w (.bool sa) (.slice xa na ca) (.slice ya ma ea) 24).alloc (.cells #[.bool sb, .slice xb nb cb, .slice yb mb eb] 24)
  have h2 := bx3_at (w.alloc (.cells #[.bool sa, .slice xa na ca, .slice ya ma ea] 24)) (.bool sb) (.slice xb nb cb) (.slice yb mb eb) 24
  rw [size_alloc1] at h2
  have h4 := below_alloc (below_alloc (Below.refl w.heap.size w) (.cells #[.bool sa, .slice xa na ca, .slice ya ma ea] 24)) (.cells #[.bool sb, .slice xb nb cb, .slice yb mb eb] 24)
  have h5 := ha.below h4
  have h6 := hb.below h4
  clear ha hb
  go_enter Tryz.func20, Tryz.ntmps20
  go_wp2_with fail
  generalize (w.alloc (.cells #[.bool sa, .slice xa na ca, .slice ya ma ea] 24)).alloc (.cells #[.bool sb, .slice xb nb cb, .slice yb mb eb] 24) = w1 at *
  have HRA := hid h5; have HRB := hid h6; have HW := hid h4; have BA := hid h1; have BB := hid h2
  clear h1 h2 h4 h5 h6
  have c1 := qForm_c (s := sa) HRA.out (by omega) (by omega)
  cases h1 : rfB sa fa na ga ma
  · rw [h1] at c1
    refine c1.mono ?_
    rintro en w2 ⟨rfl, hb⟩
    have HB := hid (HW.out.trans (hb.mono HW.out.size))
    clear c1 hb hp
    go_wp2
    go_ret2
    exact ⟨rfl, HB.out⟩
  rw [h1] at c1
  refine c1.mono ?_
  rintro en w2 ⟨rfl, hb⟩
  have h2 : rfB sb fb nb gb mb = false := by rw [h1] at hp; simpa using hp
  have HB2 := hid hb
  clear c1 hb hp h1
  obtain ⟨zb, b0, b1, b2⟩ := BB.out.below HB2.out
  have c2 := qForm_c (s := sb) (HRB.out.below HB2.out) (by omega) (by omega)
  rw [h2] at c2
  go_wp2_with fail
  refine c2.mono ?_
  rintro en w3 ⟨rfl, hb⟩
  have HB3 := hid (HW.out.trans ((HB2.out.trans (hb.mono HB2.out.size)).mono HW.out.size))
  clear c2 hb h2
  go_wp2
  go_ret2
  exact ⟨rfl, HB3.out⟩

set_option maxRecDepth 100000 in
set_option maxHeartbeats 8000000 in
theorem docCmpOk_c {w : World} {sa : Bool} {xa : Option Addr} {na ca : Nat} {fa : Nat → Int} {ya : Option Addr} {ma ea : Nat} {ga : Nat → Int} {sb : Bool} {xb : Option Addr} {nb cb : Nat} {fb : Nat → Int} {yb : Option Addr} {mb eb : Nat} {gb : Nat → Int} (ha : Rw w xa na ca fa ya ma ea ga) (hb : Rw w xb nb cb fb yb mb eb gb) (hna : na ≤ 1000) (hma : ma ≤ 1000) (hnb : nb ≤ 1000) (hmb : mb ≤ 1000) {qa qb : Rat} (hqa : Rn 1000 w sa xa na ca fa ya ma ea ga qa) (hqb : Rn 1000 w sb xb nb cb fb yb mb eb gb qb) (hLa : na ≤ 100 ∧ ma ≤ 100 ∧ nb ≤ 100 ∧ mb ≤ 100) :
    Calls Tryz.prog 20 #[.agg #[.bool sa, .slice xa na ca, .slice ya ma ea], .agg #[.bool sb, .slice xb nb cb, .slice yb mb eb]] w fun en w' => ∃ c, en = .returned (.tuple #[.int .i64 c, .int .i64 0]) ∧ Below w.heap.size w w' ∧ ROrd c qa qb := by
  have HQA0 := hid (⟨hqa.num, hqa.den, hLa.1, hLa.2.1⟩ : Rn 100 w sa xa na ca fa ya ma ea ga qa); have HQB0 := hid (⟨hqb.num, hqb.den, hLa.2.2.1, hLa.2.2.2⟩ : Rn 100 w sb xb nb cb fb yb mb eb gb qb)
  have FA := hid hqa.rf; have FB := hid hqb.rf
  clear hqa hqb hLa
  have h1 := (bx3_at w (.bool sa) (.slice xa na ca) (.slice ya ma ea) 24).alloc (.cells #[.bool sb, .slice xb nb cb, .slice yb mb eb] 24)
  have h2 := bx3_at (w.alloc (.cells #[.bool sa, .slice xa na ca, .slice ya ma ea] 24)) (.bool sb) (.slice xb nb cb) (.slice yb mb eb) 24
  rw [size_alloc1] at h2
  have h4 := below_alloc (below_alloc (Below.refl w.heap.size w) (.cells #[.bool sa, .slice xa na ca, .slice ya ma ea] 24)) (.cells #[.bool sb, .slice xb nb cb, .slice yb mb eb] 24)
  have h5 := ha.below h4
  have h6 := hb.below h4
  clear ha hb
  go_enter Tryz.func20, Tryz.ntmps20
  go_wp2_with fail
  generalize (w.alloc (.cells #[.bool sa, .slice xa na ca, .slice ya ma ea] 24)).alloc (.cells #[.bool sb, .slice xb nb cb, .slice yb mb eb] 24) = w1 at *
  have HRA := hid h5; have HRB := hid h6; have HW := hid h4; have BA := hid h1; have BB := hid h2
  clear h1 h2 h4 h5 h6
  have c1 := qForm_c (s := sa) HRA.out (by omega) (by omega)
  rw [FA.out] at c1
  refine c1.mono ?_
  rintro en w2 ⟨rfl, hb⟩
  have HB2 := hid hb
  clear c1 hb
  obtain ⟨zb, b0, b1, b2⟩ := BB.out.below HB2.out
  have c2 := qForm_c (s := sb) (HRB.out.below HB2.out) (by omega) (by omega)
  rw [FB.out] at c2
  go_wp2_with fail
  refine c2.mono ?_
  rintro en w3 ⟨rfl, hb⟩
  have HB3 := hid (HB2.out.trans (hb.mono HB2.out.size))
  clear c2 hb zb b0 b1 b2
  obtain ⟨za, a0, a1, a2⟩ := BA.out.below HB3.out
  obtain ⟨zb, b0, b1, b2⟩ := BB.out.below HB3.out
  have HWA := hid (HW.out.trans (HB3.out.mono HW.out.size))
  have C1 : Hid (∀ W, Below w3.heap.size w3 W → Calls Tryz.prog 47 #[.agg #[.bool sa, .slice xa na ca, .slice ya ma ea]] W fun en w' => ∃ s x n c d y m c' g, en = .returned (.agg #[.bool s, .slice x n c, .slice y m c']) ∧ Below W.heap.size W w' ∧ Hid (n ≤ 200 ∧ m ≤ 200 ∧ Qn w' s x n d y m g qa)) := fun W hW => (qFrom_c ((HQA0.out.below HWA.out).below hW) (by omega)).mono (fun _ _ ⟨s, x, n, c, d, y, m, c', g, k1, k2, k3, k4, k5⟩ => ⟨s, x, n, c, d, y, m, c', g, k1, k2, k3, k4, k5⟩)
  have C2 : Hid (∀ W, Below w3.heap.size w3 W → Calls Tryz.prog 47 #[.agg #[.bool sb, .slice xb nb cb, .slice yb mb eb]] W fun en w' => ∃ s x n c d y m c' g, en = .returned (.agg #[.bool s, .slice x n c, .slice y m c']) ∧ Below W.heap.size W w' ∧ Hid (n ≤ 200 ∧ m ≤ 200 ∧ Qn w' s x n d y m g qb)) := fun W hW => (qFrom_c ((HQB0.out.below HWA.out).below hW) (by omega)).mono (fun _ _ ⟨s, x, n, c, d, y, m, c', g, k1, k2, k3, k4, k5⟩ => ⟨s, x, n, c, d, y, m, c', g, k1, k2, k3, k4, k5⟩)
  have C3 : Hid (∀ (W : World) (s5 : Bool) (x5 : Option Addr) (n5 c5 : Nat) (d5 : Nat → Int) (y5 : Option Addr) (m5 e5 : Nat) (g5 : Nat → Int) (s6 : Bool) (x6 : Option Addr) (n6 c6 : Nat) (d6 : Nat → Int) (y6 : Option Addr) (m6 e6 : Nat) (g6 : Nat → Int), (n5 ≤ 200 ∧ m5 ≤ 200) → (n6 ≤ 200 ∧ m6 ≤ 200) → Qn W s5 x5 n5 d5 y5 m5 g5 qa → Qn W s6 x6 n6 d6 y6 m6 g6 qb → Calls Tryz.prog 66 #[.agg #[.bool s5, .slice x5 n5 c5, .slice y5 m5 e5], .agg #[.bool s6, .slice x6 n6 c6, .slice y6 m6 e6]] W fun e w' => ∃ c, e = .returned (.int .i64 c) ∧ Below W.heap.size W w' ∧ Hid (ROrd c qa qb)) := fun W s5 x5 n5 c5 d5 y5 m5 e5 g5 s6 x6 n6 c6 d6 y6 m6 e6 g6 h1 h2 h3 h4 => qCmp_c h3 h4 (by omega) (by omega) (by omega) (by omega)
  go_wp2_with fail
  go_region_held3 (fun w' => w'.cell? ⟨w.heap.size, 0, none⟩ = some (.bool sa) ∧ w'.cell? ⟨w.heap.size, 1, none⟩ = some (.slice xa na ca) ∧ w'.cell? ⟨w.heap.size, 2, none⟩ = some (.slice ya ma ea) ∧ w'.cell? ⟨w.heap.size + 1, 0, none⟩ = some (.bool sb) ∧ w'.cell? ⟨w.heap.size + 1, 1, none⟩ = some (.slice xb nb cb) ∧ w'.cell? ⟨w.heap.size + 1, 2, none⟩ = some (.slice yb mb eb))
    (refine ⟨?_, ?_, ?_, ?_, ?_, ?_⟩ <;> repeat (with_reducible first | assumption | refine kCd ?_ | refine kCb (by assumption) ?_))
    (first
      | (go_at_call 47; with_reducible refine (C1.out _ (by repeat (with_reducible first | assumption | exact Below.refl _ _ | refine Below.drew ?_ | refine kBb (by assumption) ?_))).mono ?_; rintro e v5 ⟨s5, x5, n5, c5, d5, y5, m5, e5, g5, rfl, hb5, H5⟩)
      | (go_at_call 47; with_reducible refine (C2.out _ (by repeat (with_reducible first | assumption | exact Below.refl _ _ | refine Below.drew ?_ | refine kBb (by assumption) ?_))).mono ?_; rintro e v6 ⟨s6, x6, n6, c6, d6, y6, m6, e6, g6, rfl, hb6, H6⟩)
      | (go_at_call 66; with_reducible refine (C3.out _ s5 x5 n5 c5 d5 y5 m5 e5 g5 s6 x6 n6 c6 d6 y6 m6 e6 g6 ⟨H5.out.1, H5.out.2.1⟩ ⟨H6.out.1, H6.out.2.1⟩ (by repeat (with_reducible first | exact H5.out.2.2 | refine kQd ?_ | refine kQb (by assumption) ?_)) (by repeat (with_reducible first | exact H6.out.2.2 | refine kQd ?_ | refine kQb (by assumption) ?_))).mono ?_; rintro e v7 ⟨cc, rfl, hb7, H7⟩))
  all_goals
    have hb : Below w3.heap.size w3 v7 := (by repeat (with_reducible first | assumption | exact Below.refl _ _ | refine Below.drew ?_ | refine kBb (by assumption) ?_))
    have HBw := hid (HWA.out.trans (hb.mono HWA.out.size))
    clear hb
    go_wp2
    go_ret2
    exact ⟨cc, rfl, HBw.out, H7.out⟩
end Go.Proofs.YtndiiknbkjlbiaaGreatDoor

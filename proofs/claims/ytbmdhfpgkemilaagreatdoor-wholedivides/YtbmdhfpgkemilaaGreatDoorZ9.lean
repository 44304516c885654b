/-
  Walks of the document's reference for whole: Divide. Walks of the document's reference for whole: DocDivide. The walk of WholeDivides.
-/
import Derived.Test.YtbmdhfpgkemilaaGreatDoorZ8
namespace Go.Proofs.YtbmdhfpgkemilaaGreatDoor
open Go.RowKit

/-- A box that holds a sign and a list, and may be written. -/
structure X2 (w : World) (B : Nat) (s : Bool) (x : Option Addr) (n c : Nat) : Prop where
  z : B < w.heap.size
  c0 : w.cell? ⟨B, 0, none⟩ = some (.bool s)
  c1 : w.cell? ⟨B, 1, none⟩ = some (.slice x n c)
  zf : ∀ o, w.frozen? ⟨B, o, none⟩ = false
theorem X2.below {w w' B s x n c} (h : X2 w B s x n c) (hb : Below w.heap.size w w') : X2 w' B s x n c := by
  obtain ⟨h1, h2⟩ := bcell hb
  exact ⟨Nat.lt_of_lt_of_le h.z hb.size, kCb hb h.c0, kCb hb h.c1, fun o => (h2 _ _ h.z).trans (h.zf o)⟩
theorem x2_new (w : World) (t : TypeId) (s : Bool) (x : Option Addr) (n c : Nat) : X2 (w.alloc (.cells #[.bool s, .slice x n c] t)) w.heap.size s x n c := by
  refine ⟨by simp, by simp [go_sem], by simp [go_sem], fun o => ?_⟩
  have e := heap_alloc_new w (.cells #[.bool s, .slice x n c] t)
  simp only [World.frozen?, e]; simp
/-- A number stored into such a box. -/
theorem X2.put {w B s x n c} (h : X2 w B s x n c) (r : Bool) (y : Option Addr) (m d : Nat) : X2 ((w.setCell ⟨B, 0, none⟩ (.bool r)).setCell ⟨B, 1, none⟩ (.slice y m d)) B r y m d :=
  ⟨by simpa [World.setCell] using h.z, kCo (by decide) (kCe (kI0 h.c0)), kCe (kIs (kI0 h.c1)), fun o => kFs (kFs (h.zf o))⟩
theorem X2.dn {w B s x n c u0 u1 y m d V} (h : X2 w B s x n c) (hx : Dn w y m d V) : Dn ((w.setCell ⟨B, 0, none⟩ u0).setCell ⟨B, 1, none⟩ u1) y m d V :=
  ⟨rd_setne (cell_off (by decide) h.c1) (fun i h => by cases h) (rd_setne h.c0 (fun i h => by cases h) hx.rd), hx.dg, hx.fm, hx.val⟩
theorem X2.zn {w B s x n c u0 u1 t y m d v} (h : X2 w B s x n c) (hx : Zn w t y m d v) : Zn ((w.setCell ⟨B, 0, none⟩ u0).setCell ⟨B, 1, none⟩ u1) t y m d v := ⟨h.dn hx.dn, hx.sgn, hx.pos⟩
theorem X2.drew {w B s x n c} (h : X2 w B s x n c) : X2 w.drew B s x n c := ⟨h.z, h.c0, h.c1, h.zf⟩
theorem kX2b {w w' B s x n c} (hb : Below w.heap.size w w') (h : X2 w B s x n c) : X2 w' B s x n c := h.below hb
theorem Ob2.x2 {w B} (h : Ob2 w B) : X2 w B false none 0 0 := ⟨h.z, h.z0, h.z1, h.zf⟩
theorem Ob2.far {w B B' u0 u1} (h : Ob2 w B) (hB : B' ≠ B) : Ob2 ((w.setCell ⟨B', 0, none⟩ u0).setCell ⟨B', 1, none⟩ u1) B := ⟨by simpa [World.setCell] using h.z, kCs hB (kCs hB h.z0), kCs hB (kCs hB h.z1), fun o => kFs (kFs (h.zf o))⟩
theorem Bx.far {w B B' u0 u1 s x n c} (h : Bx w B s x n c) (hB : B' ≠ B) : Bx ((w.setCell ⟨B', 0, none⟩ u0).setCell ⟨B', 1, none⟩ u1) B s x n c := by
  obtain ⟨z, c0, c1⟩ := h
  exact ⟨by simpa [World.setCell] using z, kCs hB (kCs hB c0), kCs hB (kCs hB c1)⟩
theorem flr_same {u v : Int} {s t : Bool} (hst : s = t) (hu : u = sg s u.natAbs) (hv : v = sg t v.natAbs) (h0 : v ≠ 0) : Flr u v (sg false (u.natAbs / v.natAbs)) (u - sg false (u.natAbs / v.natAbs) * v) := by
  subst hst
  refine ⟨by omega, ?_⟩
  have e := Nat.div_add_mod u.natAbs v.natAbs
  have l := Nat.mod_lt u.natAbs (show 0 < v.natAbs by omega)
  have e' : (v.natAbs : Int) * (u.natAbs / v.natAbs : Nat) + (u.natAbs % v.natAbs : Nat) = u.natAbs := by exact_mod_cast e
  generalize u.natAbs / v.natAbs = Q at *
  generalize u.natAbs % v.natAbs = R at *
  have hs : sg false Q = (Q : Int) := rfl
  rw [hs]
  cases s
  · have e1 : u = u.natAbs := hu
    have e2 : v = v.natAbs := hv
    have e3 : u - Q * v = R := by rw [← e2, ← e1] at e'; rw [← e', Int.mul_comm]; omega
    rw [e3]; left; omega
  · have e1 : u = -(u.natAbs : Int) := hu
    have e2 : v = -(v.natAbs : Int) := hv
    have e3 : u - Q * v = -(R : Int) := by
      have : (Q : Int) * v = -((v.natAbs : Int) * Q) := by
        have k : (Q : Int) * v = (Q : Int) * -(v.natAbs : Int) := congrArg (fun z => (Q : Int) * z) e2
        rw [k, Int.mul_neg, Int.mul_comm]
      omega
    rw [e3]; right; omega
theorem flr_even {u v : Int} {s t : Bool} (hst : ¬ s = t) (hu : u = sg s u.natAbs) (hv : v = sg t v.natAbs) (h0 : v ≠ 0) (hR : u.natAbs % v.natAbs = 0) : Flr u v (sg true (u.natAbs / v.natAbs)) (u - sg true (u.natAbs / v.natAbs) * v) := by
  refine ⟨by omega, ?_⟩
  have e := Nat.div_add_mod u.natAbs v.natAbs
  rw [hR] at e
  have e' : (v.natAbs : Int) * (u.natAbs / v.natAbs : Nat) = u.natAbs := by exact_mod_cast e
  generalize u.natAbs / v.natAbs = Q at *
  have hs : sg true Q = -(Q : Int) := rfl
  rw [hs]
  have e3 : u - -(Q : Int) * v = 0 := by
    cases s <;> cases t
    · exact absurd rfl hst
    · have e1 : u = u.natAbs := hu
      have e2 : v = -(v.natAbs : Int) := hv
      have : -(Q : Int) * v = (v.natAbs : Int) * Q := by
        have k : -(Q : Int) * v = -(Q : Int) * -(v.natAbs : Int) := congrArg (fun z => -(Q : Int) * z) e2
        rw [k, Int.neg_mul_neg, Int.mul_comm]
      omega
    · have e1 : u = -(u.natAbs : Int) := hu
      have e2 : v = v.natAbs := hv
      have : -(Q : Int) * v = -((v.natAbs : Int) * Q) := by rw [Int.neg_mul, Int.mul_comm, ← e2]
      omega
    · exact absurd rfl hst
  rw [e3]; omega
theorem flr_rest {u v : Int} {s t : Bool} (hst : ¬ s = t) (hu : u = sg s u.natAbs) (hv : v = sg t v.natAbs) (h0 : v ≠ 0) (hR : 0 < u.natAbs % v.natAbs) : Flr u v (sg true (u.natAbs / v.natAbs) - 1) (u - (sg true (u.natAbs / v.natAbs) - 1) * v) := by
  refine ⟨by omega, ?_⟩
  have e := Nat.div_add_mod u.natAbs v.natAbs
  have l := Nat.mod_lt u.natAbs (show 0 < v.natAbs by omega)
  have e' : (v.natAbs : Int) * (u.natAbs / v.natAbs : Nat) + (u.natAbs % v.natAbs : Nat) = u.natAbs := by exact_mod_cast e
  generalize u.natAbs / v.natAbs = Q at *
  generalize u.natAbs % v.natAbs = R at *
  have hs : sg true Q = -(Q : Int) := rfl
  rw [hs, Int.sub_mul, Int.one_mul]
  cases s <;> cases t
  · exact absurd rfl hst
  · have e1 : u = u.natAbs := hu
    have e2 : v = -(v.natAbs : Int) := hv
    have : -(Q : Int) * v = (v.natAbs : Int) * Q := by
      have k : -(Q : Int) * v = -(Q : Int) * -(v.natAbs : Int) := congrArg (fun z => -(Q : Int) * z) e2
      rw [k, Int.neg_mul_neg, Int.mul_comm]
    rw [this]; omega
  · have e1 : u = -(u.natAbs : Int) := hu
    have e2 : v = v.natAbs := hv
    have : -(Q : Int) * v = -((v.natAbs : Int) * Q) := by rw [Int.neg_mul, Int.mul_comm, ← e2]
    rw [this]; omega
  · exact absurd rfl hst
theorem zboxes4 {w : World} (sa : Bool) (xa : Option Addr) (na ca : Nat) (sb : Bool) (xb : Option Addr) (nb cb : Nat) (t : TypeId) :
    Bx ((((w.alloc (.cells #[.bool sa, .slice xa na ca] t)).alloc (.cells #[.bool sb, .slice xb nb cb] t)).alloc (.cells #[.bool false, .slice none 0 0] t)).alloc (.cells #[.bool false, .slice none 0 0] t)) w.heap.size sa xa na ca ∧ Bx ((((w.alloc (.cells #[.bool sa, .slice xa na ca] t)).alloc (.cells #[.bool sb, .slice xb nb cb] t)).alloc (.cells #[.bool false, .slice none 0 0] t)).alloc (.cells #[.bool false, .slice none 0 0] t)) (w.heap.size + 1) sb xb nb cb ∧ Ob2 ((((w.alloc (.cells #[.bool sa, .slice xa na ca] t)).alloc (.cells #[.bool sb, .slice xb nb cb] t)).alloc (.cells #[.bool false, .slice none 0 0] t)).alloc (.cells #[.bool false, .slice none 0 0] t)) (w.heap.size + 1 + 1) ∧ Ob2 ((((w.alloc (.cells #[.bool sa, .slice xa na ca] t)).alloc (.cells #[.bool sb, .slice xb nb cb] t)).alloc (.cells #[.bool false, .slice none 0 0] t)).alloc (.cells #[.bool false, .slice none 0 0] t)) (w.heap.size + 1 + 1 + 1) ∧ Below w.heap.size w ((((w.alloc (.cells #[.bool sa, .slice xa na ca] t)).alloc (.cells #[.bool sb, .slice xb nb cb] t)).alloc (.cells #[.bool false, .slice none 0 0] t)).alloc (.cells #[.bool false, .slice none 0 0] t)) := by
  obtain ⟨h1, h2, h3, h4⟩ := zboxes (w := w) sa xa na ca sb xb nb cb t
  have h5 := ob2_new (((w.alloc (.cells #[.bool sa, .slice xa na ca] t)).alloc (.cells #[.bool sb, .slice xb nb cb] t)).alloc (.cells #[.bool false, .slice none 0 0] t)) t
  rw [size_alloc1, size_alloc1, size_alloc1] at h5
  exact ⟨h1.alloc _, h2.alloc _, h3.alloc _, h5, below_alloc h4 _⟩
theorem zInt1_c {w : World} : Calls Tryz.prog 124 #[.int .i64 1] w fun e w' => ∃ s x n c d, e = .returned (.agg #[.bool s, .slice x n c]) ∧ Below w.heap.size w w' ∧ Hid (n ≤ 2 ∧ Zn w' s x n d 1) := by
  refine (zInt_c 1 w (by decide) (by decide)).mono ?_
  rintro e w' ⟨s, x, n, c, d, rfl, h⟩
  have h0 := vd_nonneg h.dg
  have hv := h.val
  cases s
  · have hv' : vd d n = 1 := hv
    exact ⟨false, x, n, c, d, rfl, h.bel, h.le, ⟨h.rd, h.dg, h.fm, hv'⟩, rfl, h.sgn⟩
  · have hv' : - vd d n = 1 := hv
    omega
theorem zSubE_c {w : World} {sa : Bool} {xa : Option Addr} {na ca : Nat} {da : Nat → Int} {sb : Bool} {xb : Option Addr} {nb cb : Nat} {db : Nat → Int} {u v : Int} (ha : Zn w sa xa na da u) (hb : Zn w sb xb nb db v) (hn : na ≤ 4096) (hm : nb ≤ 4096) :
    Calls Tryz.prog 126 #[.agg #[.bool sa, .slice xa na ca], .agg #[.bool sb, .slice xb nb cb]] w fun e w' => ∃ s x n c d, e = .returned (.agg #[.bool s, .slice x n c]) ∧ Below w.heap.size w w' ∧ Hid (n ≤ na + nb + 1 ∧ Zn w' s x n d (u - v)) :=
  (zSub_c ha hb hn hm).mono (fun _ _ ⟨s, x, n, c, d, h1, h2, h3, h4⟩ => ⟨s, x, n, c, d, h1, h2, h3, h4⟩)
theorem zMulE_c {w : World} {sa : Bool} {xa : Option Addr} {na ca : Nat} {da : Nat → Int} {sb : Bool} {xb : Option Addr} {nb cb : Nat} {db : Nat → Int} {u v : Int} (ha : Zn w sa xa na da u) (hb : Zn w sb xb nb db v) (hn : na ≤ 4096) (hm : nb ≤ 4096) :
    Calls Tryz.prog 127 #[.agg #[.bool sa, .slice xa na ca], .agg #[.bool sb, .slice xb nb cb]] w fun e w' => ∃ s x n c d, e = .returned (.agg #[.bool s, .slice x n c]) ∧ Below w.heap.size w w' ∧ Hid (n ≤ na + nb ∧ Zn w' s x n d (u * v)) :=
  (zMul_c ha hb hn hm).mono (fun _ _ ⟨s, x, n, c, d, h1, h2, h3, h4⟩ => ⟨s, x, n, c, d, h1, h2, h3, h4⟩)

set_option maxRecDepth 100000 in
set_option maxHeartbeats 8000000 in
theorem zDivide_c {w : World} {sa : Bool} {xa : Option Addr} {na ca : Nat} {da : Nat → Int} {sb : Bool} {xb : Option Addr} {nb cb : Nat} {db : Nat → Int} {u v : Int} (ha : Zn w sa xa na da u) (hb : Zn w sb xb nb db v) (hn : na ≤ 1000) (hm : nb ≤ 1000) (hv0 : v ≠ 0) :
    Calls Tryz.prog 63 #[.agg #[.bool sa, .slice xa na ca], .agg #[.bool sb, .slice xb nb cb]] w fun e w' => ∃ s x n c d t y m c' g q r, e = .returned (.tuple #[.agg #[.bool s, .slice x n c], .agg #[.bool t, .slice y m c']]) ∧ Below w.heap.size w w' ∧ Hid (n ≤ 8192 ∧ m ≤ 8192 ∧ Zn w' s x n d q ∧ Zn w' t y m g r ∧ Flr u v q r) := by
  obtain ⟨ba, bb, ob4, ob5, hw⟩ := zboxes4 (w := w) sa xa na ca sb xb nb cb 83
  have h1 := (((ha.alloc (.cells #[.bool sa, .slice xa na ca] 83)).alloc (.cells #[.bool sb, .slice xb nb cb] 83)).alloc (.cells #[.bool false, .slice none 0 0] 83)).alloc (.cells #[.bool false, .slice none 0 0] 83)
  have h2 := (((hb.alloc (.cells #[.bool sa, .slice xa na ca] 83)).alloc (.cells #[.bool sb, .slice xb nb cb] 83)).alloc (.cells #[.bool false, .slice none 0 0] 83)).alloc (.cells #[.bool false, .slice none 0 0] 83)
  have hsz : ((((w.alloc (.cells #[.bool sa, .slice xa na ca] 83)).alloc (.cells #[.bool sb, .slice xb nb cb] 83)).alloc (.cells #[.bool false, .slice none 0 0] 83)).alloc (.cells #[.bool false, .slice none 0 0] 83)).heap.size = w.heap.size + 1 + 1 + 1 + 1 := by rw [size_alloc1, size_alloc1, size_alloc1, size_alloc1]
  clear ha hb
  go_enter Tryz.func63, Tryz.ntmps63
  go_wp2_with fail
  generalize (((w.alloc (.cells #[.bool sa, .slice xa na ca] 83)).alloc (.cells #[.bool sb, .slice xb nb cb] 83)).alloc (.cells #[.bool false, .slice none 0 0] 83)).alloc (.cells #[.bool false, .slice none 0 0] 83) = w1 at *
  have HA := hid h1; have HB := hid h2; have HW := hid hw; have HV0 := hid hv0; have BA := hid ba; have BB := hid bb; have O4 := hid ob4; have O5 := hid ob5
  clear h1 h2 hw ba bb ob4 ob5
  refine (rdiv_c HA.out.dn HB.out.dn (by omega) (by omega) (by have := HV0.out; omega)).mono ?_
  rintro e w2 ⟨zq, kq, cq, dq, zr, kr, cr, dr, rfl, hb2, H2⟩
  have HB2 := hid hb2
  have hkq := H2.out.1; have hkr := H2.out.2.1
  have hsz2 := hb2.size
  clear hb2 hv0
  obtain ⟨za, a0, a1⟩ := BA.out.below HB2.out
  obtain ⟨zb, b0, b1⟩ := BB.out.below HB2.out
  cases hse : (sa == sb)
  · have HS := hid (show ¬ sa = sb by intro h; subst h; simp at hse)
    by_cases hk0 : kr = 0
    · subst hk0
      have hR0 := H2.out.2.2.2.zero
      have HFl := hid (flr_even HS.out HA.out.sgn HB.out.sgn HV0.out hR0)
      have hkd : decide ((0 : Int) < ((0 : Nat) : Int)) = false := by simp
      clear hR0
      go_wp2_with fail
      refine (mkZ_c (by omega)).mono ?_
      rintro e w3 ⟨r3, rfl, hb3, HR3⟩
      have HB3 := hid (HB2.out.trans (hb3.mono HB2.out.size))
      have HX3 := hid (Zn.of (H2.out.2.2.1.below hb3) HR3.out)
      have hsz3 := HB3.out.size
      clear hb3 HR3 a0 a1 b0 b1 za zb
      obtain ⟨za, a0, a1⟩ := BA.out.below HB3.out
      obtain ⟨zb, b0, b1⟩ := BB.out.below HB3.out
      have hz0 : w.heap.size < w3.heap.size := by omega
      have hz1 : w.heap.size + 1 < w3.heap.size := by omega
      go_wp2_with fail
      have hX8 := x2_new w3 83 r3 zq kq cq
      have h8 := HX3.out.alloc (.cells #[.bool r3, .slice zq kq cq] 83)
      have hb8 := below_alloc HB3.out (.cells #[.bool r3, .slice zq kq cq] 83)
      have hB8 : w.heap.size + 1 + 1 + 1 < w3.heap.size := by omega
      generalize w3.alloc (.cells #[.bool r3, .slice zq kq cq] 83) = w4 at *
      generalize w3.heap.size = B8 at *
      have HB4 := hid hb8; have X8 := hid hX8; have HX := hid h8
      have BA4 := hid (BA.out.below HB4.out); have BB4 := hid (BB.out.below HB4.out); have O44 := hid (O4.out.below HB4.out); have O54 := hid (O5.out.below HB4.out)
      have hkx : kq ≤ 1100 := by omega
      clear hX8 h8 hb8 a0 a1 b0 b1 za zb HX3 HB3
      obtain ⟨z8, x0, x1, xf⟩ := X8.out
      obtain ⟨za, a0, a1⟩ := BA4.out
      obtain ⟨zb, b0, b1⟩ := BB4.out
      obtain ⟨hz4, c0, c1, cf⟩ := O44.out
      obtain ⟨hz5, d0, d1, df⟩ := O54.out
      have C3 : Hid (∀ W, Below w4.heap.size w4 W → Calls Tryz.prog 127 #[.agg #[.bool r3, .slice zq kq cq], .agg #[.bool sb, .slice xb nb cb]] W fun e w' => ∃ s x n c d, e = .returned (.agg #[.bool s, .slice x n c]) ∧ Below W.heap.size W w' ∧ Hid (n ≤ kq + nb ∧ Zn w' s x n d ((sg true (u.natAbs / v.natAbs)) * v))) := fun W hW => zMulE_c (HX.out.below hW) ((HB.out.below HB4.out).below hW) (by omega) (by omega)
      have C4 : Hid (∀ (W : World) (s : Bool) (x : Option Addr) (n c : Nat) (d : Nat → Int), Below w4.heap.size w4 W → n ≤ kq + nb → Zn W s x n d ((sg true (u.natAbs / v.natAbs)) * v) → Calls Tryz.prog 126 #[.agg #[.bool sa, .slice xa na ca], .agg #[.bool s, .slice x n c]] W fun e w' => ∃ s x n c d, e = .returned (.agg #[.bool s, .slice x n c]) ∧ Below W.heap.size W w' ∧ Hid (n ≤ 8192 ∧ Zn w' s x n d (u - (sg true (u.natAbs / v.natAbs)) * v))) := fun W s x n c d hW hn2 h2 => (zSubE_c ((HA.out.below HB4.out).below hW) h2 (by omega) (by omega)).mono (fun e w' ⟨s, x, n, c, d, h1, h2, h3, h4⟩ => ⟨s, x, n, c, d, h1, h2, by omega, h4⟩)
      go_region_held3 (fun w' => w'.cell? ⟨w.heap.size, 0, none⟩ = some (.bool sa) ∧ w'.cell? ⟨w.heap.size, 1, none⟩ = some (.slice xa na ca) ∧ w'.cell? ⟨w.heap.size + 1, 0, none⟩ = some (.bool sb) ∧ w'.cell? ⟨w.heap.size + 1, 1, none⟩ = some (.slice xb nb cb) ∧ w'.cell? ⟨B8, 0, none⟩ = some (.bool r3) ∧ w'.cell? ⟨B8, 1, none⟩ = some (.slice zq kq cq) ∧ (w'.cell? ⟨w.heap.size + 1 + 1, 0, none⟩).isSome = true ∧ (w'.cell? ⟨w.heap.size + 1 + 1, 1, none⟩).isSome = true ∧ (w'.cell? ⟨w.heap.size + 1 + 1 + 1, 0, none⟩).isSome = true ∧ (w'.cell? ⟨w.heap.size + 1 + 1 + 1, 1, none⟩).isSome = true ∧ w'.frozen? ⟨w.heap.size + 1 + 1, 0, none⟩ = false ∧ w'.frozen? ⟨w.heap.size + 1 + 1, 1, none⟩ = false ∧ w'.frozen? ⟨w.heap.size + 1 + 1 + 1, 0, none⟩ = false ∧ w'.frozen? ⟨w.heap.size + 1 + 1 + 1, 1, none⟩ = false)
        (refine ⟨?_, ?_, ?_, ?_, ?_, ?_, ?_, ?_, ?_, ?_, ?_, ?_, ?_, ?_⟩ <;> repeat (with_reducible first | assumption | exact cf _ | exact df _ | exact tf _ | exact sf _ | exact uf _ | exact pf _ | exact kI0 c0 | exact kI0 c1 | exact kI0 d0 | exact kI0 d1 | exact kI0 t0 | exact kI0 t1 | exact kI0 s0 | exact kI0 s1 | exact kI0 u0 | exact kI0 u1 | exact kI0 p0 | exact kI0 p1 | refine kCd ?_ | refine kId ?_ | refine kFd ?_ | refine kCs (by simp only [ne_eq]; omega) ?_ | refine kIs ?_ | refine kFs ?_ | refine kCb (by assumption) ?_ | refine kIb (by assumption) ?_))
        (first
          | (go_at_call 127; with_reducible refine (C3.out _ (by repeat (with_reducible first | assumption | exact Below.refl _ _ | refine Below.drew ?_ | refine kBa ?_ | refine kBb (by assumption) ?_))).mono ?_; rintro e v7 ⟨sm, xm, nm, cm, dm, rfl, hv7, HM⟩; have TA : Ob2 v7 (w.heap.size + 1 + 1) := (by repeat (with_reducible first | exact O44.out | exact TA | exact TC | refine Ob2.drew ?_ | refine kO2b (by assumption) ?_)); obtain ⟨_, t0, t1, tf⟩ := id TA; have TB : Ob2 v7 (w.heap.size + 1 + 1 + 1) := (by repeat (with_reducible first | exact O54.out | exact TB | exact TD | refine Ob2.drew ?_ | refine kO2b (by assumption) ?_)); obtain ⟨_, s0, s1, sf⟩ := id TB)
          | (go_at_call 126; with_reducible refine (C4.out _ sm xm nm cm dm (by repeat (with_reducible first | assumption | exact Below.refl _ _ | refine Below.drew ?_ | refine kBa ?_ | refine kBb (by assumption) ?_)) HM.out.1 (by repeat (with_reducible first | exact HM.out.2 | refine kZd ?_ | refine kZb (by assumption) ?_))).mono ?_; rintro e v8 ⟨sp, xp, np, cp, dp, rfl, hv8, HP⟩; have TC : Ob2 v8 (w.heap.size + 1 + 1) := (by repeat (with_reducible first | exact O44.out | exact TA | exact TC | refine Ob2.drew ?_ | refine kO2b (by assumption) ?_)); obtain ⟨_, u0, u1, uf⟩ := id TC; have TD : Ob2 v8 (w.heap.size + 1 + 1 + 1) := (by repeat (with_reducible first | exact O54.out | exact TB | exact TD | refine Ob2.drew ?_ | refine kO2b (by assumption) ?_)); obtain ⟨_, p0, p1, pf⟩ := id TD))
      all_goals
        have hb8 : Below w4.heap.size w4 v8 := (by repeat (with_reducible first | assumption | exact Below.refl _ _ | refine Below.drew ?_ | refine kBa ?_ | refine kBb (by assumption) ?_))
        have hbw := HW.out.trans ((HB4.out.trans (hb8.mono HB4.out.size)).mono HW.out.size)
        go_wp2
        refine bodyPost_ret (v := .tuple #[.agg #[.bool r3, .slice zq kq cq], .agg #[.bool sp, .slice xp np cp]]) (by simp [results, Tryz.results63, go_sem, u0, u1, p0, p1]) rfl ⟨r3, zq, kq, cq, dq, sp, xp, np, cp, dp, (sg true (u.natAbs / v.natAbs)), u - (sg true (u.natAbs / v.natAbs)) * v, rfl, below_st2 (below_st2 hbw (by omega)) (by omega), by omega, HP.out.1, ?_, ?_, HFl.out⟩
        · exact (TD.far (by omega)).x2.zn (TC.x2.zn (HX.out.below hb8))
        · exact (TD.far (by omega)).x2.zn (TC.x2.zn HP.out.2)

    · have hk1 : 0 < kr := by omega
      have hkd : decide (0 < kr) = true := decide_eq_true hk1
      have HFl := hid (flr_rest HS.out HA.out.sgn HB.out.sgn HV0.out (H2.out.2.2.2.pos' hk1))
      go_wp2_with fail
      refine (mkZ_c (by omega)).mono ?_
      rintro e w3 ⟨r3, rfl, hb3, HR3⟩
      have HB3 := hid (HB2.out.trans (hb3.mono HB2.out.size))
      have HX3 := hid (Zn.of (H2.out.2.2.1.below hb3) HR3.out)
      have hsz3 := HB3.out.size
      clear hb3 HR3 a0 a1 b0 b1 za zb
      obtain ⟨za, a0, a1⟩ := BA.out.below HB3.out
      obtain ⟨zb, b0, b1⟩ := BB.out.below HB3.out
      have hz0 : w.heap.size < w3.heap.size := by omega
      have hz1 : w.heap.size + 1 < w3.heap.size := by omega
      go_wp2_with fail
      have hX8 := x2_new w3 83 r3 zq kq cq
      have h8 := HX3.out.alloc (.cells #[.bool r3, .slice zq kq cq] 83)
      have hb8 := below_alloc HB3.out (.cells #[.bool r3, .slice zq kq cq] 83)
      have hB8 : w.heap.size + 1 + 1 + 1 < w3.heap.size := by omega
      generalize w3.alloc (.cells #[.bool r3, .slice zq kq cq] 83) = w4 at *
      generalize w3.heap.size = B8 at *
      have HB4 := hid hb8; have X8 := hid hX8; have HX := hid h8
      have BA4 := hid (BA.out.below HB4.out); have BB4 := hid (BB.out.below HB4.out); have O44 := hid (O4.out.below HB4.out); have O54 := hid (O5.out.below HB4.out)
      have hkx : kq ≤ 1100 := by omega
      clear hX8 h8 hb8 a0 a1 b0 b1 za zb HX3 HB3
      obtain ⟨z8, x0, x1, xf⟩ := X8.out
      have C1 : Hid (∀ W, Calls Tryz.prog 124 #[.int .i64 1] W fun e w' => ∃ s x n c d, e = .returned (.agg #[.bool s, .slice x n c]) ∧ Below W.heap.size W w' ∧ Hid (n ≤ 2 ∧ Zn w' s x n d 1)) := fun W => zInt1_c
      have C2 : Hid (∀ (W : World) (s : Bool) (x : Option Addr) (n c : Nat) (d : Nat → Int), Below w4.heap.size w4 W → n ≤ 2 → Zn W s x n d 1 → Calls Tryz.prog 126 #[.agg #[.bool r3, .slice zq kq cq], .agg #[.bool s, .slice x n c]] W fun e w' => ∃ s x n c d, e = .returned (.agg #[.bool s, .slice x n c]) ∧ Below W.heap.size W w' ∧ Hid (n ≤ kq + 3 ∧ Zn w' s x n d (sg true (u.natAbs / v.natAbs) - 1))) := fun W s x n c d hW hn2 h2 => (zSubE_c (HX.out.below hW) h2 (by omega) (by omega)).mono (fun e w' ⟨s, x, n, c, d, h1, h2, h3, h4⟩ => ⟨s, x, n, c, d, h1, h2, by omega, h4⟩)
      go_region_with
        (first
          | (go_at_call 124; with_reducible refine (C1.out _).mono ?_; rintro e v5 ⟨si, xi, ni, ci, di, rfl, hv5, HI⟩; have TU : X2 v5 B8 r3 zq kq cq := (by repeat (with_reducible first | exact X8.out | refine X2.drew ?_ | refine kX2b (by assumption) ?_)); obtain ⟨_, t0, t1, tf⟩ := id TU)
          | (go_at_call 126; with_reducible refine (C2.out _ si xi ni ci di (by repeat (with_reducible first | assumption | exact Below.refl _ _ | refine Below.drew ?_ | refine kBa ?_ | refine kBb (by assumption) ?_)) HI.out.1 (by repeat (with_reducible first | exact HI.out.2 | refine kZd ?_ | refine kZb (by assumption) ?_))).mono ?_; rintro e v6 ⟨sp, xp, np, cp, dp, rfl, hv6, HP⟩; have TV : X2 v6 B8 r3 zq kq cq := (by repeat (with_reducible first | exact X8.out | exact TU | refine X2.drew ?_ | refine kX2b (by assumption) ?_)); obtain ⟨_, u0, u1, uf⟩ := id TV))
      all_goals
      have hb6 : Below w4.heap.size w4 v6 := (by repeat (with_reducible first | assumption | exact Below.refl _ _ | refine Below.drew ?_ | refine kBa ?_ | refine kBb (by assumption) ?_))
      have HB5 := hid (HB4.out.trans (hb6.mono HB4.out.size))
      have hsz5 := HB5.out.size
      have hsz4 := X8.out.z
      have XN := hid (TV.put sp xp np cp)
      have HXN := hid (TV.zn (u0 := .bool sp) (u1 := .slice xp np cp) HP.out.2)
      have hB0 : B8 ≠ w.heap.size := by omega
      have hB1 : B8 ≠ w.heap.size + 1 := by omega
      have hB2 : B8 ≠ w.heap.size + 1 + 1 := by omega
      have hB3 : B8 ≠ w.heap.size + 1 + 1 + 1 := by omega
      have BAN := hid ((BA.out.below HB5.out).far (u0 := .bool sp) (u1 := .slice xp np cp) hB0)
      have BBN := hid ((BB.out.below HB5.out).far (u0 := .bool sp) (u1 := .slice xp np cp) hB1)
      have O4N := hid ((O4.out.below HB5.out).far (u0 := .bool sp) (u1 := .slice xp np cp) hB2)
      have O5N := hid ((O5.out.below HB5.out).far (u0 := .bool sp) (u1 := .slice xp np cp) hB3)
      have HBN := hid (below_st2 (u0 := .bool sp) (u1 := .slice xp np cp) HB5.out (show w1.heap.size ≤ B8 by omega))
      have hnp : np ≤ 1100 := by have := HP.out.1; omega
      clear HB4 X8 HX BA4 BB4 O44 O54 C1 C2 hv5 hv6 TU TV t0 t1 tf u0 u1 uf x0 x1 xf hkx hb6 HI z8 HB5 hsz5
      go_wp2_with fail
      generalize (v6.setCell ⟨B8, 0, none⟩ (.bool sp)).setCell ⟨B8, 1, none⟩ (.slice xp np cp) = w4' at *
      have HB4 := HBN; have X8 := XN; have HX := HXN; have BA4 := BAN; have BB4 := BBN; have O44 := O4N; have O54 := O5N; have hkx := hnp
      clear HBN XN HXN BAN BBN O4N O5N hnp

      obtain ⟨z8, x0, x1, xf⟩ := X8.out
      obtain ⟨za, a0, a1⟩ := BA4.out
      obtain ⟨zb, b0, b1⟩ := BB4.out
      obtain ⟨hz4, c0, c1, cf⟩ := O44.out
      obtain ⟨hz5, d0, d1, df⟩ := O54.out
      have C3 : Hid (∀ W, Below w4'.heap.size w4' W → Calls Tryz.prog 127 #[.agg #[.bool sp, .slice xp np cp], .agg #[.bool sb, .slice xb nb cb]] W fun e w' => ∃ s x n c d, e = .returned (.agg #[.bool s, .slice x n c]) ∧ Below W.heap.size W w' ∧ Hid (n ≤ np + nb ∧ Zn w' s x n d ((sg true (u.natAbs / v.natAbs) - 1) * v))) := fun W hW => zMulE_c (HX.out.below hW) ((HB.out.below HB4.out).below hW) (by omega) (by omega)
      have C4 : Hid (∀ (W : World) (s : Bool) (x : Option Addr) (n c : Nat) (d : Nat → Int), Below w4'.heap.size w4' W → n ≤ np + nb → Zn W s x n d ((sg true (u.natAbs / v.natAbs) - 1) * v) → Calls Tryz.prog 126 #[.agg #[.bool sa, .slice xa na ca], .agg #[.bool s, .slice x n c]] W fun e w' => ∃ s x n c d, e = .returned (.agg #[.bool s, .slice x n c]) ∧ Below W.heap.size W w' ∧ Hid (n ≤ 8192 ∧ Zn w' s x n d (u - (sg true (u.natAbs / v.natAbs) - 1) * v))) := fun W s x n c d hW hn2 h2 => (zSubE_c ((HA.out.below HB4.out).below hW) h2 (by omega) (by omega)).mono (fun e w' ⟨s, x, n, c, d, h1, h2, h3, h4⟩ => ⟨s, x, n, c, d, h1, h2, by omega, h4⟩)
      go_region_held3 (fun w' => w'.cell? ⟨w.heap.size, 0, none⟩ = some (.bool sa) ∧ w'.cell? ⟨w.heap.size, 1, none⟩ = some (.slice xa na ca) ∧ w'.cell? ⟨w.heap.size + 1, 0, none⟩ = some (.bool sb) ∧ w'.cell? ⟨w.heap.size + 1, 1, none⟩ = some (.slice xb nb cb) ∧ w'.cell? ⟨B8, 0, none⟩ = some (.bool sp) ∧ w'.cell? ⟨B8, 1, none⟩ = some (.slice xp np cp) ∧ (w'.cell? ⟨w.heap.size + 1 + 1, 0, none⟩).isSome = true ∧ (w'.cell? ⟨w.heap.size + 1 + 1, 1, none⟩).isSome = true ∧ (w'.cell? ⟨w.heap.size + 1 + 1 + 1, 0, none⟩).isSome = true ∧ (w'.cell? ⟨w.heap.size + 1 + 1 + 1, 1, none⟩).isSome = true ∧ w'.frozen? ⟨w.heap.size + 1 + 1, 0, none⟩ = false ∧ w'.frozen? ⟨w.heap.size + 1 + 1, 1, none⟩ = false ∧ w'.frozen? ⟨w.heap.size + 1 + 1 + 1, 0, none⟩ = false ∧ w'.frozen? ⟨w.heap.size + 1 + 1 + 1, 1, none⟩ = false)
        (refine ⟨?_, ?_, ?_, ?_, ?_, ?_, ?_, ?_, ?_, ?_, ?_, ?_, ?_, ?_⟩ <;> repeat (with_reducible first | assumption | exact cf _ | exact df _ | exact tf _ | exact sf _ | exact uf _ | exact pf _ | exact kI0 c0 | exact kI0 c1 | exact kI0 d0 | exact kI0 d1 | exact kI0 t0 | exact kI0 t1 | exact kI0 s0 | exact kI0 s1 | exact kI0 u0 | exact kI0 u1 | exact kI0 p0 | exact kI0 p1 | refine kCd ?_ | refine kId ?_ | refine kFd ?_ | refine kCs (by simp only [ne_eq]; omega) ?_ | refine kIs ?_ | refine kFs ?_ | refine kCb (by assumption) ?_ | refine kIb (by assumption) ?_))
        (first
          | (go_at_call 127; with_reducible refine (C3.out _ (by repeat (with_reducible first | assumption | exact Below.refl _ _ | refine Below.drew ?_ | refine kBa ?_ | refine kBb (by assumption) ?_))).mono ?_; rintro e v7 ⟨sm, xm, nm, cm, dm, rfl, hv7, HM⟩; have TA : Ob2 v7 (w.heap.size + 1 + 1) := (by repeat (with_reducible first | exact O44.out | exact TA | exact TC | refine Ob2.drew ?_ | refine kO2b (by assumption) ?_)); obtain ⟨_, t0, t1, tf⟩ := id TA; have TB : Ob2 v7 (w.heap.size + 1 + 1 + 1) := (by repeat (with_reducible first | exact O54.out | exact TB | exact TD | refine Ob2.drew ?_ | refine kO2b (by assumption) ?_)); obtain ⟨_, s0, s1, sf⟩ := id TB)
          | (go_at_call 126; with_reducible refine (C4.out _ sm xm nm cm dm (by repeat (with_reducible first | assumption | exact Below.refl _ _ | refine Below.drew ?_ | refine kBa ?_ | refine kBb (by assumption) ?_)) HM.out.1 (by repeat (with_reducible first | exact HM.out.2 | refine kZd ?_ | refine kZb (by assumption) ?_))).mono ?_; rintro e v8 ⟨sj, xj, nj, cj, dj, rfl, hv8, HP⟩; have TC : Ob2 v8 (w.heap.size + 1 + 1) := (by repeat (with_reducible first | exact O44.out | exact TA | exact TC | refine Ob2.drew ?_ | refine kO2b (by assumption) ?_)); obtain ⟨_, u0, u1, uf⟩ := id TC; have TD : Ob2 v8 (w.heap.size + 1 + 1 + 1) := (by repeat (with_reducible first | exact O54.out | exact TB | exact TD | refine Ob2.drew ?_ | refine kO2b (by assumption) ?_)); obtain ⟨_, p0, p1, pf⟩ := id TD))
      all_goals
        have hb8 : Below w4'.heap.size w4' v8 := (by repeat (with_reducible first | assumption | exact Below.refl _ _ | refine Below.drew ?_ | refine kBa ?_ | refine kBb (by assumption) ?_))
        have hbw := HW.out.trans ((HB4.out.trans (hb8.mono HB4.out.size)).mono HW.out.size)
        go_wp2
        refine bodyPost_ret (v := .tuple #[.agg #[.bool sp, .slice xp np cp], .agg #[.bool sj, .slice xj nj cj]]) (by simp [results, Tryz.results63, go_sem, u0, u1, p0, p1]) rfl ⟨sp, xp, np, cp, dp, sj, xj, nj, cj, dj, (sg true (u.natAbs / v.natAbs) - 1), u - (sg true (u.natAbs / v.natAbs) - 1) * v, rfl, below_st2 (below_st2 hbw (by omega)) (by omega), by omega, HP.out.1, ?_, ?_, HFl.out⟩
        · exact (TD.far (by omega)).x2.zn (TC.x2.zn (HX.out.below hb8))
        · exact (TD.far (by omega)).x2.zn (TC.x2.zn HP.out.2)

  · have HS := hid (show sa = sb by simpa using hse)
    have HFl := hid (flr_same HS.out HA.out.sgn HB.out.sgn HV0.out)
    go_wp2_with fail
    refine (mkZ_c (by omega)).mono ?_
    rintro e w3 ⟨r3, rfl, hb3, HR3⟩
    have HB3 := hid (HB2.out.trans (hb3.mono HB2.out.size))
    have HX3 := hid (Zn.of (H2.out.2.2.1.below hb3) HR3.out)
    have hsz3 := HB3.out.size
    clear hb3 HR3 a0 a1 b0 b1 za zb
    obtain ⟨za, a0, a1⟩ := BA.out.below HB3.out
    obtain ⟨zb, b0, b1⟩ := BB.out.below HB3.out
    have hz0 : w.heap.size < w3.heap.size := by omega
    have hz1 : w.heap.size + 1 < w3.heap.size := by omega
    go_wp2_with fail
    have hX8 := x2_new w3 83 r3 zq kq cq
    have h8 := HX3.out.alloc (.cells #[.bool r3, .slice zq kq cq] 83)
    have hb8 := below_alloc HB3.out (.cells #[.bool r3, .slice zq kq cq] 83)
    have hB8 : w.heap.size + 1 + 1 + 1 < w3.heap.size := by omega
    generalize w3.alloc (.cells #[.bool r3, .slice zq kq cq] 83) = w4 at *
    generalize w3.heap.size = B8 at *
    have HB4 := hid hb8; have X8 := hid hX8; have HX := hid h8
    have BA4 := hid (BA.out.below HB4.out); have BB4 := hid (BB.out.below HB4.out); have O44 := hid (O4.out.below HB4.out); have O54 := hid (O5.out.below HB4.out)
    have hkx : kq ≤ 1100 := by omega
    clear hX8 h8 hb8 a0 a1 b0 b1 za zb HX3 HB3
    obtain ⟨z8, x0, x1, xf⟩ := X8.out
    obtain ⟨za, a0, a1⟩ := BA4.out
    obtain ⟨zb, b0, b1⟩ := BB4.out
    obtain ⟨hz4, c0, c1, cf⟩ := O44.out
    obtain ⟨hz5, d0, d1, df⟩ := O54.out
    have C3 : Hid (∀ W, Below w4.heap.size w4 W → Calls Tryz.prog 127 #[.agg #[.bool r3, .slice zq kq cq], .agg #[.bool sb, .slice xb nb cb]] W fun e w' => ∃ s x n c d, e = .returned (.agg #[.bool s, .slice x n c]) ∧ Below W.heap.size W w' ∧ Hid (n ≤ kq + nb ∧ Zn w' s x n d ((sg false (u.natAbs / v.natAbs)) * v))) := fun W hW => zMulE_c (HX.out.below hW) ((HB.out.below HB4.out).below hW) (by omega) (by omega)
    have C4 : Hid (∀ (W : World) (s : Bool) (x : Option Addr) (n c : Nat) (d : Nat → Int), Below w4.heap.size w4 W → n ≤ kq + nb → Zn W s x n d ((sg false (u.natAbs / v.natAbs)) * v) → Calls Tryz.prog 126 #[.agg #[.bool sa, .slice xa na ca], .agg #[.bool s, .slice x n c]] W fun e w' => ∃ s x n c d, e = .returned (.agg #[.bool s, .slice x n c]) ∧ Below W.heap.size W w' ∧ Hid (n ≤ 8192 ∧ Zn w' s x n d (u - (sg false (u.natAbs / v.natAbs)) * v))) := fun W s x n c d hW hn2 h2 => (zSubE_c ((HA.out.below HB4.out).below hW) h2 (by omega) (by omega)).mono (fun e w' ⟨s, x, n, c, d, h1, h2, h3, h4⟩ => ⟨s, x, n, c, d, h1, h2, by omega, h4⟩)
    go_region_held3 (fun w' => w'.cell? ⟨w.heap.size, 0, none⟩ = some (.bool sa) ∧ w'.cell? ⟨w.heap.size, 1, none⟩ = some (.slice xa na ca) ∧ w'.cell? ⟨w.heap.size + 1, 0, none⟩ = some (.bool sb) ∧ w'.cell? ⟨w.heap.size + 1, 1, none⟩ = some (.slice xb nb cb) ∧ w'.cell? ⟨B8, 0, none⟩ = some (.bool r3) ∧ w'.cell? ⟨B8, 1, none⟩ = some (.slice zq kq cq) ∧ (w'.cell? ⟨w.heap.size + 1 + 1, 0, none⟩).isSome = true ∧ (w'.cell? ⟨w.heap.size + 1 + 1, 1, none⟩).isSome = true ∧ (w'.cell? ⟨w.heap.size + 1 + 1 + 1, 0, none⟩).isSome = true ∧ (w'.cell? ⟨w.heap.size + 1 + 1 + 1, 1, none⟩).isSome = true ∧ w'.frozen? ⟨w.heap.size + 1 + 1, 0, none⟩ = false ∧ w'.frozen? ⟨w.heap.size + 1 + 1, 1, none⟩ = false ∧ w'.frozen? ⟨w.heap.size + 1 + 1 + 1, 0, none⟩ = false ∧ w'.frozen? ⟨w.heap.size + 1 + 1 + 1, 1, none⟩ = false)
      (refine ⟨?_, ?_, ?_, ?_, ?_, ?_, ?_, ?_, ?_, ?_, ?_, ?_, ?_, ?_⟩ <;> repeat (with_reducible first | assumption | exact cf _ | exact df _ | exact tf _ | exact sf _ | exact uf _ | exact pf _ | exact kI0 c0 | exact kI0 c1 | exact kI0 d0 | exact kI0 d1 | exact kI0 t0 | exact kI0 t1 | exact kI0 s0 | exact kI0 s1 | exact kI0 u0 | exact kI0 u1 | exact kI0 p0 | exact kI0 p1 | refine kCd ?_ | refine kId ?_ | refine kFd ?_ | refine kCs (by simp only [ne_eq]; omega) ?_ | refine kIs ?_ | refine kFs ?_ | refine kCb (by assumption) ?_ | refine kIb (by assumption) ?_))
      (first
        | (go_at_call 127; with_reducible refine (C3.out _ (by repeat (with_reducible first | assumption | exact Below.refl _ _ | refine Below.drew ?_ | refine kBa ?_ | refine kBb (by assumption) ?_))).mono ?_; rintro e v7 ⟨sm, xm, nm, cm, dm, rfl, hv7, HM⟩; have TA : Ob2 v7 (w.heap.size + 1 + 1) := (by repeat (with_reducible first | exact O44.out | exact TA | exact TC | refine Ob2.drew ?_ | refine kO2b (by assumption) ?_)); obtain ⟨_, t0, t1, tf⟩ := id TA; have TB : Ob2 v7 (w.heap.size + 1 + 1 + 1) := (by repeat (with_reducible first | exact O54.out | exact TB | exact TD | refine Ob2.drew ?_ | refine kO2b (by assumption) ?_)); obtain ⟨_, s0, s1, sf⟩ := id TB)
        | (go_at_call 126; with_reducible refine (C4.out _ sm xm nm cm dm (by repeat (with_reducible first | assumption | exact Below.refl _ _ | refine Below.drew ?_ | refine kBa ?_ | refine kBb (by assumption) ?_)) HM.out.1 (by repeat (with_reducible first | exact HM.out.2 | refine kZd ?_ | refine kZb (by assumption) ?_))).mono ?_; rintro e v8 ⟨sp, xp, np, cp, dp, rfl, hv8, HP⟩; have TC : Ob2 v8 (w.heap.size + 1 + 1) := (by repeat (with_reducible first | exact O44.out | exact TA | exact TC | refine Ob2.drew ?_ | refine kO2b (by assumption) ?_)); obtain ⟨_, u0, u1, uf⟩ := id TC; have TD : Ob2 v8 (w.heap.size + 1 + 1 + 1) := (by repeat (with_reducible first | exact O54.out | exact TB | exact TD | refine Ob2.drew ?_ | refine kO2b (by assumption) ?_)); obtain ⟨_, p0, p1, pf⟩ := id TD))
    all_goals
      have hb8 : Below w4.heap.size w4 v8 := (by repeat (with_reducible first | assumption | exact Below.refl _ _ | refine Below.drew ?_ | refine kBa ?_ | refine kBb (by assumption) ?_))
      have hbw := HW.out.trans ((HB4.out.trans (hb8.mono HB4.out.size)).mono HW.out.size)
      go_wp2
      refine bodyPost_ret (v := .tuple #[.agg #[.bool r3, .slice zq kq cq], .agg #[.bool sp, .slice xp np cp]]) (by simp [results, Tryz.results63, go_sem, u0, u1, p0, p1]) rfl ⟨r3, zq, kq, cq, dq, sp, xp, np, cp, dp, (sg false (u.natAbs / v.natAbs)), u - (sg false (u.natAbs / v.natAbs)) * v, rfl, below_st2 (below_st2 hbw (by omega)) (by omega), by omega, HP.out.1, ?_, ?_, HFl.out⟩
      · exact (TD.far (by omega)).x2.zn (TC.x2.zn (HX.out.below hb8))
      · exact (TD.far (by omega)).x2.zn (TC.x2.zn HP.out.2)
end Go.Proofs.YtbmdhfpgkemilaaGreatDoor
namespace Go.Proofs.YtbmdhfpgkemilaaGreatDoor
open Go.RowKit

/-- What DocDivide answers. -/
def DGot (w w' : World) (e : Ending) (sa sb : Bool) (na nb : Nat) (fa fb : Nat → Int) : Prop := ∃ r1 p1 k1 c1 q r2 p2 k2 c2 r er, e = .returned (.tuple #[.agg #[.bool r1, .slice p1 k1 c1], .agg #[.bool r2, .slice p2 k2 c2], .int .i64 er]) ∧ Below w.heap.size w w' ∧ k1 ≤ 8192 ∧ k2 ≤ 8192 ∧ Wn w' r1 p1 k1 c1 q (wv r1 q k1) ∧ Wn w' r2 p2 k2 c2 r (wv r2 r k2) ∧ WDiv sa sb na nb fa fb r1 r2 k1 k2 q r er
theorem wn_nil (w : World) : Wn w false none 0 0 (fun _ => 0) (wv false (fun _ => 0) 0) := ⟨Rd.zero, fun j hj => by omega, by decide, by omega, fun _ => ⟨rfl, rfl⟩, rfl⟩
theorem Wn.self {w s x n c f v} (h : Wn w s x n c f v) : Wn w s x n c f (wv s f n) := ⟨h.rd, h.lm, h.wf, h.cap, h.nil, rfl⟩
/-- Quotient and rest as the reference holds them. -/
structure VAt (w1 wx : World) (b8 b9 : Nat) (s5 : Bool) (z5 : Option Addr) (m5 c5 : Nat) (d5 : Nat → Int) (s6 : Bool) (z6 : Option Addr) (m6 c6 : Nat) (d6 : Nat → Int) (u v q r : Int) : Prop where
  bx : Bx wx b8 s5 z5 m5 c5
  by' : Bx wx b9 s6 z6 m6 c6
  bel : Below w1.heap.size w1 wx
  zq : Zn wx s5 z5 m5 d5 q
  zr : Zn wx s6 z6 m6 d6 r
  fl : Flr u v q r
  l5 : m5 ≤ 8192
  l6 : m6 ≤ 8192
  o8 : w1.heap.size ≤ b8
  o9 : w1.heap.size ≤ b9

theorem size_st2 (w : World) (B : Nat) (u0 u1 : Value) : ((w.setCell ⟨B, 0, none⟩ u0).setCell ⟨B, 1, none⟩ u1).heap.size = w.heap.size := by simp [World.setCell]
theorem bx_first (w : World) (t : TypeId) (s : Bool) (x : Option Addr) (n c : Nat) : Bx (w.alloc (.cells #[.bool s, .slice x n c] t)) w.heap.size s x n c := ⟨by simp, kN0, kN1⟩
theorem bx_next (w : World) (o : Obj) (t : TypeId) (s : Bool) (x : Option Addr) (n c : Nat) : Bx ((w.alloc o).alloc (.cells #[.bool s, .slice x n c] t)) (w.heap.size + 1) s x n c := by
  have := bx_first (w.alloc o) t s x n c
  rw [size_alloc1] at this; exact this
theorem bx_st (w : World) (B : Nat) (u0 u1 : Value) (t : TypeId) (s : Bool) (x : Option Addr) (n c : Nat) : Bx (((w.setCell ⟨B, 0, none⟩ u0).setCell ⟨B, 1, none⟩ u1).alloc (.cells #[.bool s, .slice x n c] t)) w.heap.size s x n c := by
  have := bx_first ((w.setCell ⟨B, 0, none⟩ u0).setCell ⟨B, 1, none⟩ u1) t s x n c
  rw [size_st2] at this; exact this
theorem X2.bx {w B s x n c} (h : X2 w B s x n c) : Bx w B s x n c := ⟨h.z, h.c0, h.c1⟩
theorem vat_aa {w1 v : World} {t : TypeId} {s5 : Bool} {z5 : Option Addr} {m5 c5 : Nat} {d5 : Nat → Int} {s6 : Bool} {z6 : Option Addr} {m6 c6 : Nat} {d6 : Nat → Int} {u v' q r : Int} (hb : Below w1.heap.size w1 v) (hD : m5 ≤ 8192 ∧ m6 ≤ 8192 ∧ Zn v s5 z5 m5 d5 q ∧ Zn v s6 z6 m6 d6 r ∧ Flr u v' q r) : VAt w1 ((v.alloc (.cells #[.bool s5, .slice z5 m5 c5] t)).alloc (.cells #[.bool s6, .slice z6 m6 c6] t)) v.heap.size (v.heap.size + 1) s5 z5 m5 c5 d5 s6 z6 m6 c6 d6 u v' q r :=
  ⟨(bx_first _ _ _ _ _ _).alloc _, bx_next _ _ _ _ _ _ _, below_alloc (below_alloc hb _) _, (hD.2.2.1.alloc _).alloc _, (hD.2.2.2.1.alloc _).alloc _, hD.2.2.2.2, hD.1, hD.2.1, hb.size, by have := hb.size; omega⟩
theorem vat_ab {w1 v : World} {t : TypeId} {s5 : Bool} {z5 : Option Addr} {m5 c5 : Nat} {d5 : Nat → Int} {s6 : Bool} {z6 : Option Addr} {m6 c6 : Nat} {d6 : Nat → Int} {u v' q r : Int} (hb : Below w1.heap.size w1 v) (hD : m5 ≤ 8192 ∧ m6 ≤ 8192 ∧ Zn v s5 z5 m5 d5 q ∧ Zn v s6 z6 m6 d6 r ∧ Flr u v' q r) : VAt w1 ((v.alloc (.cells #[.bool s6, .slice z6 m6 c6] t)).alloc (.cells #[.bool s5, .slice z5 m5 c5] t)) (v.heap.size + 1) v.heap.size s5 z5 m5 c5 d5 s6 z6 m6 c6 d6 u v' q r :=
  ⟨bx_next _ _ _ _ _ _ _, (bx_first _ _ _ _ _ _).alloc _, below_alloc (below_alloc hb _) _, (hD.2.2.1.alloc _).alloc _, (hD.2.2.2.1.alloc _).alloc _, hD.2.2.2.2, hD.1, hD.2.1, by have := hb.size; omega, hb.size⟩
theorem vat_sa {w1 v : World} {b8 : Nat} {t : TypeId} {s5 : Bool} {z5 : Option Addr} {m5 c5 : Nat} {d5 : Nat → Int} {s6 : Bool} {z6 : Option Addr} {m6 c6 : Nat} {d6 : Nat → Int} {u v' q r : Int} (hb : Below w1.heap.size w1 v) (hD : m5 ≤ 8192 ∧ m6 ≤ 8192 ∧ Zn v s5 z5 m5 d5 q ∧ Zn v s6 z6 m6 d6 r ∧ Flr u v' q r) (h8 : Ob2 v b8) (o8 : w1.heap.size ≤ b8) : VAt w1 ((((v).setCell ⟨b8, 0, none⟩ (.bool s5)).setCell ⟨b8, 1, none⟩ (.slice z5 m5 c5)).alloc (.cells #[.bool s6, .slice z6 m6 c6] t)) b8 v.heap.size s5 z5 m5 c5 d5 s6 z6 m6 c6 d6 u v' q r :=
  ⟨(h8.x2.put _ _ _ _).bx.alloc _, bx_st _ _ _ _ _ _ _ _ _, below_alloc (below_st2 hb o8) _, (h8.x2.zn hD.2.2.1).alloc _, (h8.x2.zn hD.2.2.2.1).alloc _, hD.2.2.2.2, hD.1, hD.2.1, o8, hb.size⟩
theorem vat_as {w1 v : World} {b9 : Nat} {t : TypeId} {s5 : Bool} {z5 : Option Addr} {m5 c5 : Nat} {d5 : Nat → Int} {s6 : Bool} {z6 : Option Addr} {m6 c6 : Nat} {d6 : Nat → Int} {u v' q r : Int} (hb : Below w1.heap.size w1 v) (hD : m5 ≤ 8192 ∧ m6 ≤ 8192 ∧ Zn v s5 z5 m5 d5 q ∧ Zn v s6 z6 m6 d6 r ∧ Flr u v' q r) (h9 : Ob2 v b9) (o9 : w1.heap.size ≤ b9) : VAt w1 ((((v).setCell ⟨b9, 0, none⟩ (.bool s6)).setCell ⟨b9, 1, none⟩ (.slice z6 m6 c6)).alloc (.cells #[.bool s5, .slice z5 m5 c5] t)) v.heap.size b9 s5 z5 m5 c5 d5 s6 z6 m6 c6 d6 u v' q r :=
  ⟨bx_st _ _ _ _ _ _ _ _ _, (h9.x2.put _ _ _ _).bx.alloc _, below_alloc (below_st2 hb o9) _, (h9.x2.zn hD.2.2.1).alloc _, (h9.x2.zn hD.2.2.2.1).alloc _, hD.2.2.2.2, hD.1, hD.2.1, hb.size, o9⟩
theorem vat_ss {w1 v : World} {b8 b9 : Nat} {s5 : Bool} {z5 : Option Addr} {m5 c5 : Nat} {d5 : Nat → Int} {s6 : Bool} {z6 : Option Addr} {m6 c6 : Nat} {d6 : Nat → Int} {u v' q r : Int} (hb : Below w1.heap.size w1 v) (hD : m5 ≤ 8192 ∧ m6 ≤ 8192 ∧ Zn v s5 z5 m5 d5 q ∧ Zn v s6 z6 m6 d6 r ∧ Flr u v' q r) (h8 : Ob2 v b8) (o8 : w1.heap.size ≤ b8) (h9 : Ob2 v b9) (o9 : w1.heap.size ≤ b9) (hne : b9 ≠ b8) : VAt w1 (((((v).setCell ⟨b8, 0, none⟩ (.bool s5)).setCell ⟨b8, 1, none⟩ (.slice z5 m5 c5)).setCell ⟨b9, 0, none⟩ (.bool s6)).setCell ⟨b9, 1, none⟩ (.slice z6 m6 c6)) b8 b9 s5 z5 m5 c5 d5 s6 z6 m6 c6 d6 u v' q r :=
  ⟨(h8.x2.put _ _ _ _).bx.far hne, ((h9.far hne.symm).x2.put _ _ _ _).bx, below_st2 (below_st2 hb o8) o9, (h9.far hne.symm).x2.zn (h8.x2.zn hD.2.2.1), (h9.far hne.symm).x2.zn (h8.x2.zn hD.2.2.2.1), hD.2.2.2.2, hD.1, hD.2.1, o8, o9⟩

set_option maxRecDepth 100000 in
set_option maxHeartbeats 16000000 in
theorem docDivide_g (sa : Bool) (xa : Option Addr) (na ca : Nat) (fa : Nat → Int) (sb : Bool) (xb : Option Addr) (nb cb : Nat) (fb : Nat → Int) (w : World) (hra : Rd .u64 w xa na fa) (hfa : Lm fa na) (hca : na ≤ ca ∧ ca ≤ 9223372036854775807) (hia : xa = none → na = 0 ∧ ca = 0) (hrb : Rd .u64 w xb nb fb) (hfb : Lm fb nb) (hcb : nb ≤ cb ∧ cb ≤ 9223372036854775807) (hib : xb = none → nb = 0 ∧ cb = 0) (hna : na ≤ 400) (hnb : nb ≤ 400) :
    Calls Tryz.prog 22 #[.agg #[.bool sa, .slice xa na ca], .agg #[.bool sb, .slice xb nb cb]] w fun e w' => DGot w w' e sa sb na nb fa fb := by
  have HRA := hid hra; have HFA := hid hfa; have HIA := hid hia; have HRB := hid hrb; have HFB := hid hfb; have HIB := hid hib
  clear hra hfa hia hrb hfb hib
  go_enter Tryz.func22, Tryz.ntmps22
  go_wp2_with fail
  refine (rtwo_c sa sb xa xb na nb ca cb fa fb _ ((((HRA.out.alloc _).alloc _).alloc _).alloc _) ((((HRB.out.alloc _).alloc _).alloc _).alloc _) (by omega) (by omega)).mono ?_
  rintro e w1 ⟨rfl, hbel⟩
  obtain ⟨ba, bb, ob4, ob5, hw⟩ := zboxes4 (w := w) sa xa na ca sb xb nb cb 36
  have BA := hid (ba.below hbel); have BB := hid (bb.below hbel); have O4 := hid (ob4.below hbel); have O5 := hid (ob5.below hbel); have HW1 := hid (hw.trans (hbel.mono hw.size))
  clear hbel ba bb ob4 ob5 hw
  cases hp : (wfB sa fa na && wfB sb fb nb)
  · have E := hid (show e2 sa fa na sb fb nb = 3 by simp only [e2, hp]; rfl)
    rw [E.out]
    have HNW : Hid (¬ W2 sa fa na sb fb nb) := fun h => by rw [h.1, h.2] at hp; cases hp
    obtain ⟨hz4, c0, c1, cf⟩ := O4.out
    obtain ⟨hz5, d0, d1, df⟩ := O5.out
    go_wp2
    exact bodyPost_ret (v := .tuple #[.agg #[.bool false, .slice none 0 0], .agg #[.bool false, .slice none 0 0], .int .i64 3]) (by simp [results, Tryz.results22, go_sem, c0, c1, d0, d1]) rfl ⟨false, none, 0, 0, fun _ => 0, false, none, 0, 0, fun _ => 0, 3, rfl, below_st2 (below_st2 HW1.out (by omega)) (by omega), by omega, by omega, wn_nil _, wn_nil _, .inr (.inr ⟨HNW.out, rfl, rfl, rfl⟩)⟩
  have E := hid (show e2 sa fa na sb fb nb = 0 by simp only [e2, hp]; rfl)
  rw [E.out]
  have hq : wfB sa fa na = true ∧ wfB sb fb nb = true := by simpa using hp
  have HW2 : Hid (W2 sa fa na sb fb nb) := hq
  by_cases hnb0 : nb = 0
  · subst hnb0
    clear hp hq
    obtain ⟨zb, y0, y1⟩ := BB.out
    obtain ⟨hz4, c0, c1, cf⟩ := O4.out
    obtain ⟨hz5, d0, d1, df⟩ := O5.out
    go_wp2
    exact bodyPost_ret (v := .tuple #[.agg #[.bool false, .slice none 0 0], .agg #[.bool false, .slice none 0 0], .int .i64 4]) (by simp [results, Tryz.results22, go_sem, c0, c1, d0, d1]) rfl ⟨false, none, 0, 0, fun _ => 0, false, none, 0, 0, fun _ => 0, 4, rfl, below_st2 (below_st2 HW1.out (by omega)) (by omega), by omega, by omega, wn_nil _, wn_nil _, .inr (.inl ⟨HW2.out, rfl, rfl, rfl, rfl⟩)⟩
  have hnbd : ((nb : Int) == 0) = false := by simp; omega
  have WA : Hid (Wn w1 sa xa na ca fa (wv sa fa na)) := ⟨HRA.out.below HW1.out (Nat.le_refl _), HFA.out, hq.1, hca, HIA.out, rfl⟩
  have WB : Hid (Wn w1 sb xb nb cb fb (wv sb fb nb)) := ⟨HRB.out.below HW1.out (Nat.le_refl _), HFB.out, hq.2, hcb, HIB.out, rfl⟩
  have HV0 : Hid (wv sb fb nb ≠ 0) := by
    have h1 := vf_pos HFB.out (fm_of_wfB hq.2) (show 0 < nb by omega)
    intro h
    cases sb
    · rw [wv_false] at h; omega
    · rw [wv_true] at h; omega
  clear hp hq
  generalize hu : wv sa fa na = u at *
  generalize hv : wv sb fb nb = v at *
  have HU := hid hu; have HV := hid hv
  clear hu hv
  obtain ⟨za, x0, x1⟩ := BA.out
  obtain ⟨zb, y0, y1⟩ := BB.out
  have hzw : w.heap.size + 1 + 1 + 1 < w1.heap.size := O5.out.z
  have C1 : Hid (∀ W, Below w1.heap.size w1 W → Calls Tryz.prog 64 #[.agg #[.bool sa, .slice xa na ca]] W fun e w' => ∃ t z m c' d, e = .returned (.agg #[.bool t, .slice z m c']) ∧ Below W.heap.size W w' ∧ Hid (m ≤ 2 * na ∧ Zn w' t z m d u)) := fun W hW => zFromZ_c (WA.out.below hW) (by omega)
  have C2 : Hid (∀ W, Below w1.heap.size w1 W → Calls Tryz.prog 64 #[.agg #[.bool sb, .slice xb nb cb]] W fun e w' => ∃ t z m c' d, e = .returned (.agg #[.bool t, .slice z m c']) ∧ Below W.heap.size W w' ∧ Hid (m ≤ 2 * nb ∧ Zn w' t z m d v)) := fun W hW => zFromZ_c (WB.out.below hW) (by omega)
  have CD : Hid (∀ (W : World) (s5 : Bool) (z5 : Option Addr) (m5 c5 : Nat) (d5 : Nat → Int) (s6 : Bool) (z6 : Option Addr) (m6 c6 : Nat) (d6 : Nat → Int), m5 ≤ 2 * na → m6 ≤ 2 * nb → Zn W s5 z5 m5 d5 u → Zn W s6 z6 m6 d6 v → Calls Tryz.prog 63 #[.agg #[.bool s5, .slice z5 m5 c5], .agg #[.bool s6, .slice z6 m6 c6]] W fun e w' => ∃ s x n c d t y m c' g q r, e = .returned (.tuple #[.agg #[.bool s, .slice x n c], .agg #[.bool t, .slice y m c']]) ∧ Below W.heap.size W w' ∧ Hid (n ≤ 8192 ∧ m ≤ 8192 ∧ Zn w' s x n d q ∧ Zn w' t y m g r ∧ Flr u v q r)) := fun W s5 z5 m5 c5 d5 s6 z6 m6 c6 d6 h1 h2 h3 h4 => zDivide_c h3 h4 (by omega) (by omega) HV0.out
  go_upto_region 6 with fail
  go_cut [8, 9] from 24 to 31 (fun p1 q1 wx => ∃ (wy : World) (b8 b9 : Nat) (s5 : Bool) (z5 : Option Addr) (m5 c5 : Nat) (d5 : Nat → Int) (s6 : Bool) (z6 : Option Addr) (m6 c6 : Nat) (d6 : Nat → Int) (q r : Int), wy = wx ∧ p1 = .pointer (some ⟨b8, 0, none⟩) ∧ q1 = .pointer (some ⟨b9, 0, none⟩) ∧ VAt w1 wy b8 b9 s5 z5 m5 c5 d5 s6 z6 m6 c6 d6 u v q r)
  case first =>
    go_region_held3 (fun w' => w'.cell? ⟨w.heap.size, 0, none⟩ = some (.bool sa) ∧ w'.cell? ⟨w.heap.size, 1, none⟩ = some (.slice xa na ca) ∧ w'.cell? ⟨w.heap.size + 1, 0, none⟩ = some (.bool sb) ∧ w'.cell? ⟨w.heap.size + 1, 1, none⟩ = some (.slice xb nb cb))
      (refine ⟨?_, ?_, ?_, ?_⟩ <;> repeat (with_reducible first | assumption | refine kCd ?_ | refine kCa ?_ | refine kCs (by simp only [ne_eq]; omega) ?_ | refine kCb (by assumption) ?_))
      (first
        | (go_at_call 64; with_reducible refine (C1.out _ (by repeat (with_reducible first | assumption | exact Below.refl _ _ | refine Below.drew ?_ | refine kBa ?_ | refine kBb (by assumption) ?_))).mono ?_; rintro e v5 ⟨s5, z5, m5, c5, d5, rfl, hb5, HP⟩; have hzi := hb5.size; (try simp at hzi); obtain ⟨hc5, hf5⟩ := bcell hb5; (try have q100 : w1.heap.size < v5.heap.size := by omega); (try have q101 : w1.heap.size + 1 < v5.heap.size := by omega))
        | (go_at_call 64; with_reducible refine (C2.out _ (by repeat (with_reducible first | assumption | exact Below.refl _ _ | refine Below.drew ?_ | refine kBa ?_ | refine kBb (by assumption) ?_))).mono ?_; rintro e v6 ⟨s6, z6, m6, c6, d6, rfl, hb6, HQ⟩; have hzj := hb6.size; (try simp at hzj); obtain ⟨hc6, hf6⟩ := bcell hb6; (try have q100 : w1.heap.size < v6.heap.size := by omega); (try have q101 : w1.heap.size + 1 < v6.heap.size := by omega); (try have q102 : v5.heap.size < v6.heap.size := by omega); (try have q103 : v5.heap.size + 1 < v6.heap.size := by omega))
        | (go_at_call 63; with_reducible refine (CD.out _ s5 z5 m5 c5 d5 s6 z6 m6 c6 d6 HP.out.1 HQ.out.1 (by repeat (with_reducible first | exact HP.out.2 | refine kZd ?_ | refine kZa ?_ | refine kZb (by assumption) ?_)) (by repeat (with_reducible first | exact HQ.out.2 | refine kZd ?_ | refine kZa ?_ | refine kZb (by assumption) ?_))).mono ?_; rintro e v7 ⟨s7, z7, m7, c7, d7, s8, z8, m8, c8, d8, q, r, rfl, hb7, HD⟩; have hzk := hb7.size; (try simp at hzk); obtain ⟨hc7, hf7⟩ := bcell hb7; (try have q100 : w1.heap.size < v7.heap.size := by omega); (try have q101 : w1.heap.size + 1 < v7.heap.size := by omega); (try have q102 : v5.heap.size < v7.heap.size := by omega); (try have q103 : v5.heap.size + 1 < v7.heap.size := by omega); (try have q104 : v6.heap.size < v7.heap.size := by omega); (try have q105 : v6.heap.size + 1 < v7.heap.size := by omega)))
    all_goals
      go_wp2_with fail
      go_meet
      have hbl : Below w1.heap.size w1 v7 := (by repeat (with_reducible first | assumption | exact Below.refl _ _ | refine Below.drew ?_ | refine kBa ?_ | refine kBb (by assumption) ?_))
      refine ⟨_, _, _, s7, z7, m7, c7, d7, s8, z8, m8, c8, d8, q, r, rfl, rfl, rfl, ?_⟩
      clear HP HQ C1 C2 CD
      with_reducible first
        | exact vat_aa hbl HD.out
        | exact vat_ab hbl HD.out
        | exact vat_sa hbl HD.out (by repeat (with_reducible first | exact ob2_at rfl | exact ob2_at (size_alloc1 _ _).symm | refine kO2b hb7 ?_ | refine kO2b hb6 ?_ | refine kO2b hb5 ?_ | refine Ob2.drew ?_ | refine kO2a ?_)) (by omega)
        | exact vat_as hbl HD.out (by repeat (with_reducible first | exact ob2_at rfl | exact ob2_at (size_alloc1 _ _).symm | refine kO2b hb7 ?_ | refine kO2b hb6 ?_ | refine kO2b hb5 ?_ | refine Ob2.drew ?_ | refine kO2a ?_)) (by omega)
        | exact vat_ss hbl HD.out (by repeat (with_reducible first | exact ob2_at rfl | exact ob2_at (size_alloc1 _ _).symm | refine kO2b hb7 ?_ | refine kO2b hb6 ?_ | refine kO2b hb5 ?_ | refine Ob2.drew ?_ | refine kO2a ?_)) (by omega) (by repeat (with_reducible first | exact ob2_at rfl | exact ob2_at (size_alloc1 _ _).symm | refine kO2b hb7 ?_ | refine kO2b hb6 ?_ | refine kO2b hb5 ?_ | refine Ob2.drew ?_ | refine kO2a ?_)) (by omega) (by omega)
  case rest =>
    obtain ⟨w2, b8, b9, s5, z5, m5, c5, d5, s6, z6, m6, c6, d6, q, r, rfl, rfl, rfl, hb8, hb9, hb, hzq, hzr, hfl, hl5, hl6, ho8, ho9⟩ := hcut
    have O42 := hid (O4.out.below hb); have O52 := hid (O5.out.below hb); have HW2' := hid (HW1.out.trans (hb.mono HW1.out.size)); have ZQ := hid hzq; have ZR := hid hzr; have FL := hid hfl
    have hsz2 := hb.size
    clear hb hzq hzr hfl O4 O5 HW1 BA BB za zb x0 x1 y0 y1 C1 C2 CD
    obtain ⟨za, x0, x1⟩ := hb8
    obtain ⟨zb, y0, y1⟩ := hb9
    obtain ⟨hz4, c0, c1, cf⟩ := O42.out
    obtain ⟨hz5, d0, d1, df⟩ := O52.out
    have C3 : Hid (∀ W, Below w2.heap.size w2 W → Calls Tryz.prog 65 #[.agg #[.bool s5, .slice z5 m5 c5]] W fun e w' => ∃ r z k c' f, e = .returned (.agg #[.bool r, .slice z k c']) ∧ Below W.heap.size W w' ∧ Hid (k ≤ m5 ∧ Wn w' r z k c' f q)) := fun W hW => zToW_c (ZQ.out.below hW) (by omega)
    have C4 : Hid (∀ W, Below w2.heap.size w2 W → Calls Tryz.prog 65 #[.agg #[.bool s6, .slice z6 m6 c6]] W fun e w' => ∃ r' z k c' f, e = .returned (.agg #[.bool r', .slice z k c']) ∧ Below W.heap.size W w' ∧ Hid (k ≤ m6 ∧ Wn w' r' z k c' f r)) := fun W hW => zToW_c (ZR.out.below hW) (by omega)
    go_wp2_with fail
    go_region_held3 (fun w' => w'.cell? ⟨b8, 0, none⟩ = some (.bool s5) ∧ w'.cell? ⟨b8, 1, none⟩ = some (.slice z5 m5 c5) ∧ w'.cell? ⟨b9, 0, none⟩ = some (.bool s6) ∧ w'.cell? ⟨b9, 1, none⟩ = some (.slice z6 m6 c6) ∧ (w'.cell? ⟨w.heap.size + 1 + 1, 0, none⟩).isSome = true ∧ (w'.cell? ⟨w.heap.size + 1 + 1, 1, none⟩).isSome = true ∧ (w'.cell? ⟨w.heap.size + 1 + 1 + 1, 0, none⟩).isSome = true ∧ (w'.cell? ⟨w.heap.size + 1 + 1 + 1, 1, none⟩).isSome = true ∧ w'.frozen? ⟨w.heap.size + 1 + 1, 0, none⟩ = false ∧ w'.frozen? ⟨w.heap.size + 1 + 1, 1, none⟩ = false ∧ w'.frozen? ⟨w.heap.size + 1 + 1 + 1, 0, none⟩ = false ∧ w'.frozen? ⟨w.heap.size + 1 + 1 + 1, 1, none⟩ = false)
      (refine ⟨?_, ?_, ?_, ?_, ?_, ?_, ?_, ?_, ?_, ?_, ?_, ?_⟩ <;> repeat (with_reducible first | assumption | exact cf _ | exact df _ | exact tf _ | exact sf _ | exact uf _ | exact pf _ | exact kI0 c0 | exact kI0 c1 | exact kI0 d0 | exact kI0 d1 | exact kI0 t0 | exact kI0 t1 | exact kI0 s0 | exact kI0 s1 | exact kI0 u0 | exact kI0 u1 | exact kI0 p0 | exact kI0 p1 | refine kCd ?_ | refine kId ?_ | refine kFd ?_ | refine kCs (by simp only [ne_eq]; omega) ?_ | refine kIs ?_ | refine kFs ?_ | refine kCb (by assumption) ?_ | refine kIb (by assumption) ?_))
      (first
        | (go_at_call 65; with_reducible refine (C3.out _ (by repeat (with_reducible first | assumption | exact Below.refl _ _ | refine Below.drew ?_ | refine kBa ?_ | refine kBb (by assumption) ?_))).mono ?_; rintro e v7 ⟨sm, xm, nm, cm, fm, rfl, hv7, HM⟩; have TA : Ob2 v7 (w.heap.size + 1 + 1) := (by repeat (with_reducible first | exact O42.out | exact TA | exact TC | refine Ob2.drew ?_ | refine kO2b (by assumption) ?_)); obtain ⟨_, t0, t1, tf⟩ := id TA; have TB : Ob2 v7 (w.heap.size + 1 + 1 + 1) := (by repeat (with_reducible first | exact O52.out | exact TB | exact TD | refine Ob2.drew ?_ | refine kO2b (by assumption) ?_)); obtain ⟨_, s0, s1, sf⟩ := id TB)
        | (go_at_call 65; with_reducible refine (C4.out _ (by repeat (with_reducible first | assumption | exact Below.refl _ _ | refine Below.drew ?_ | refine kBa ?_ | refine kBb (by assumption) ?_))).mono ?_; rintro e v8 ⟨sp, xp, np, cp, fp, rfl, hv8, HP⟩; have TC : Ob2 v8 (w.heap.size + 1 + 1) := (by repeat (with_reducible first | exact O42.out | exact TA | exact TC | refine Ob2.drew ?_ | refine kO2b (by assumption) ?_)); obtain ⟨_, u0, u1, uf⟩ := id TC; have TD : Ob2 v8 (w.heap.size + 1 + 1 + 1) := (by repeat (with_reducible first | exact O52.out | exact TB | exact TD | refine Ob2.drew ?_ | refine kO2b (by assumption) ?_)); obtain ⟨_, p0, p1, pf⟩ := id TD))
    all_goals
      have WM : Wn v8 sm xm nm cm fm q := (by repeat (with_reducible first | exact HM.out.2 | refine kWd ?_ | refine kWb (by assumption) ?_))
      have hb8 : Below w2.heap.size w2 v8 := (by repeat (with_reducible first | assumption | exact Below.refl _ _ | refine Below.drew ?_ | refine kBa ?_ | refine kBb (by assumption) ?_))
      have hbw := HW2'.out.trans (hb8.mono HW2'.out.size)
      have hwm := (TD.far (u0 := .bool sm) (u1 := .slice xm nm cm) (show w.heap.size + 1 + 1 ≠ w.heap.size + 1 + 1 + 1 by omega)).wn (u0 := .bool sp) (u1 := .slice xp np cp) (TC.wn (u0 := .bool sm) (u1 := .slice xm nm cm) WM)
      have hwp := (TD.far (u0 := .bool sm) (u1 := .slice xm nm cm) (show w.heap.size + 1 + 1 ≠ w.heap.size + 1 + 1 + 1 by omega)).wn (u0 := .bool sp) (u1 := .slice xp np cp) (TC.wn (u0 := .bool sm) (u1 := .slice xm nm cm) HP.out.2)
      have hk1 := HM.out.1; have hk2 := HP.out.1
      go_wp2
      refine bodyPost_ret (v := .tuple #[.agg #[.bool sm, .slice xm nm cm], .agg #[.bool sp, .slice xp np cp], .int .i64 0]) (by simp [results, Tryz.results22, go_sem, u0, u1, p0, p1]) rfl ⟨sm, xm, nm, cm, fm, sp, xp, np, cp, fp, 0, rfl, below_st2 (below_st2 hbw (by omega)) (by omega), by omega, by omega, hwm.self, hwp.self, .inl ⟨HW2.out, by omega, rfl, ?_⟩⟩
      rw [HU.out, HV.out, WM.val, HP.out.2.val]; exact FL.out
end Go.Proofs.YtbmdhfpgkemilaaGreatDoor
namespace Go.Proofs.YtbmdhfpgkemilaaGreatDoor
open Go.RowKit

theorem kRa {w : World} {x : Option Addr} {n : Nat} {f : Nat → Int} {o : Obj} (h : Rd .u64 w x n f) : Rd .u64 (w.alloc o) x n f := h.alloc o
theorem kRb {w w' : World} {x : Option Addr} {n : Nat} {f : Nat → Int} (hb : Below w.heap.size w w') (h : Rd .u64 w x n f) : Rd .u64 w' x n f := h.below hb (Nat.le_refl _)
theorem kRd {w : World} {x : Option Addr} {n : Nat} {f : Nat → Int} (h : Rd .u64 w x n f) : Rd .u64 w.drew x n f := h
/-- What stands behind the quotient. -/
structure RestAt (w w2 wx : World) (sa : Bool) (ao : Option Addr) (n ca : Nat) (f : Nat → Int) (sb : Bool) (bo : Option Addr) (m cb : Nat) (g : Nat → Int) (b5 b6 : Nat) (r1 : Bool) (p1 : Option Addr) (k1 c1 : Nat) (q : Nat → Int) (r2 : Bool) (p2 : Option Addr) (k2 c2 : Nat) (r : Nat → Int) (er : Int) : Prop where
  ba : Bx wx w.heap.size sa ao n ca
  bb : Bx wx (w.heap.size + 1) sb bo m cb
  bq : Bx wx b5 r1 p1 k1 c1
  br : Bx wx b6 r2 p2 k2 c2
  bel : Below w2.heap.size w2 wx
  wq : ∃ v, Wn wx r1 p1 k1 c1 q v
  wr : ∃ v, Wn wx r2 p2 k2 c2 r v
  k1le : k1 ≤ n + 2
  k2le : k2 ≤ n + m + 1
  dv : WDiv sa sb n m f g r1 r2 k1 k2 q r er

theorem rest_hold {w w2 wx W5 w5 : World} {sa : Bool} {ao : Option Addr} {n ca : Nat} {f : Nat → Int} {sb : Bool} {bo : Option Addr} {m cb : Nat} {g : Nat → Int} {b5 b6 : Nat} {r1 : Bool} {p1 : Option Addr} {k1 c1 : Nat} {q : Nat → Int} {r2 : Bool} {p2 : Option Addr} {k2 c2 : Nat} {r : Nat → Int} {er : Int}
    (hW : Below w2.heap.size w2 W5) (hD : WRes (n + 2) W5 w5 r1 p1 k1 c1 q ∧ WRes (n + m + 1) W5 w5 r2 p2 k2 c2 r ∧ WDiv sa sb n m f g r1 r2 k1 k2 q r er) (hT : Turned w2.heap.size W5.heap.size w5 wx)
    (ba : Bx wx w.heap.size sa ao n ca) (bb : Bx wx (w.heap.size + 1) sb bo m cb) (bq : Bx wx b5 r1 p1 k1 c1) (br : Bx wx b6 r2 p2 k2 c2) :
    RestAt w w2 wx sa ao n ca f sb bo m cb g b5 b6 r1 p1 k1 c1 q r2 p2 k2 c2 r er := by
  have hQ := hD.1.res.turned hW hT
  have hR := hD.2.1.res.turned hW hT
  exact ⟨ba, bb, bq, br, hQ.bel, ⟨_, hQ.rd, hQ.lm, hD.1.wfB, hQ.ncap, hQ.nil', rfl⟩, ⟨_, hR.rd, hR.lm, hD.2.1.wfB, hR.ncap, hR.nil', rfl⟩, hQ.le, hR.le, hD.2.2⟩

theorem div_uniq {a b q r q' r' : Int} (h : a = q * b + r) (h0 : 0 ≤ r) (h1 : r < b) (k : a = q' * b + r') (k0 : 0 ≤ r') (k1 : r' < b) : q = q' ∧ r = r' := by
  have e : (q - q') * b = r' - r := by rw [Int.sub_mul]; omega
  have hb : 0 < b := by omega
  have hq : q - q' = 0 := by
    rcases Int.lt_trichotomy (q - q') 0 with h | h | h
    · have := Int.mul_le_mul_of_nonneg_right (show q - q' ≤ -1 by omega) (Int.le_of_lt hb); omega
    · exact h
    · have := Int.mul_le_mul_of_nonneg_right (show 1 ≤ q - q' by omega) (Int.le_of_lt hb); omega
  rw [hq, Int.zero_mul] at e
  omega
theorem flr_uniq {a b q r q' r' : Int} (h : Flr a b q r) (k : Flr a b q' r') : q = q' ∧ r = r' := by
  obtain ⟨h1, h2⟩ := h
  obtain ⟨k1, k2⟩ := k
  rcases h2 with ⟨p, p1, p2⟩ | ⟨p, p1, p2⟩
  · exact div_uniq h1 p1 p2 k1 (by omega) (by omega)
  · have := div_uniq (a := -a) (b := -b) (q := q) (r := -r) (q' := q') (r' := -r') (by rw [Int.mul_neg]; omega) (by omega) (by omega) (by rw [Int.mul_neg]; omega) (by omega) (by omega)
    omega
theorem wv_zero (s : Bool) (f : Nat → Int) : wv s f 0 = 0 := by cases s <;> rfl
theorem wdiv_agree {s t : Bool} {n m : Nat} {f h : Nat → Int} {r1 r2 : Bool} {k1 k2 : Nat} {q r : Nat → Int} {er : Int} {r1' r2' : Bool} {k1' k2' : Nat} {q' r' : Nat → Int} {er' : Int} (h1 : WDiv s t n m f h r1 r2 k1 k2 q r er) (h2 : WDiv s t n m f h r1' r2' k1' k2' q' r' er') : er' = er ∧ wv r1 q k1 = wv r1' q' k1' ∧ wv r2 r k2 = wv r2' r' k2' := by
  rcases h1 with ⟨a, b, rfl, c⟩ | ⟨a, b, rfl, rfl, rfl⟩ | ⟨a, rfl, rfl, rfl⟩ <;> rcases h2 with ⟨a', b', rfl, c'⟩ | ⟨a', b', rfl, rfl, rfl⟩ | ⟨a', rfl, rfl, rfl⟩
  · exact ⟨rfl, flr_uniq c c'⟩
  · omega
  · exact absurd a a'
  · omega
  · exact ⟨rfl, by rw [wv_zero, wv_zero], by rw [wv_zero, wv_zero]⟩
  · exact absurd a a'
  · exact absurd a' a
  · exact absurd a' a
  · exact ⟨rfl, by rw [wv_zero, wv_zero], by rw [wv_zero, wv_zero]⟩

theorem same_m {w : World} {s t x y n m c d f g u} (ha : Wn w s x n c f u) (hb : Wn w t y m d g u) (hn : n ≤ 8192) (hm : m ≤ 8192) :
    Calls Tryz.prog 23 #[.agg #[.bool s, .slice x n c], .agg #[.bool t, .slice y m d]] w fun e w' => e = .returned (.bool true) ∧ Below w.heap.size w w' :=
  wSame_true s t x y n m c d f g w (by omega) (by omega) ha.rd hb.rd ha.lm hb.lm ha.wf hb.wf (ha.val.trans hb.val.symm)

set_option maxRecDepth 100000 in
set_option maxHeartbeats 8000000 in
theorem wholeDivides_c (sa : Bool) (ao : Option Addr) (n ca : Nat) (f : Nat → Int) (sb : Bool) (bo : Option Addr) (m cb : Nat) (g : Nat → Int) (w : World) (hn : n ≤ ca ∧ ca ≤ 9223372036854775807) (hr : Rd .u64 w ao n f) (hf : Lm f n) (na : ao = none → n = 0 ∧ ca = 0) (hm : m ≤ cb ∧ cb ≤ 9223372036854775807) (hs : Rd .u64 w bo m g) (hg : Lm g m) (nb : bo = none → m = 0 ∧ cb = 0) (htab : Tab w) :
    Calls Tryz.prog 4 #[.agg #[.bool sa, .slice ao n ca], .agg #[.bool sb, .slice bo m cb]] w fun e w' => e = .returned (.bool true) ∧ Below w.heap.size w w' := by
  have HR := hid hr; have HS := hid hs; have HF := hid hf; have HG := hid hg; have NA := hid na; have NB := hid nb; have HTab := hid htab
  clear hr hs hf hg na nb htab
  go_enter Tryz.func4, Tryz.ntmps4
  go_wp2_with fail
  refine (wAwake_c _ (HTab.out.below (below_alloc (below_alloc (Below.refl w.heap.size w) _) _) HTab.out.lt)).mono ?_
  rintro e w1 ⟨rfl, hb⟩
  obtain ⟨⟨hz, x0, x1, y0, y1⟩, zf, hw⟩ := boxes2 hb
  have BA1 : Hid (Bx w1 w.heap.size sa ao n ca) := ⟨by omega, x0, x1⟩
  have BB1 : Hid (Bx w1 (w.heap.size + 1) sb bo m cb) := ⟨by omega, y0, y1⟩
  have HW1 := hid hw
  clear hb hw zf
  go_wp2_with fail
  refine (wLight_c sa sb ao bo n m ca cb _ (by omega) (by omega)).mono ?_
  rintro e w2 ⟨rfl, hb⟩
  have BA2 := hid (BA1.out.below hb); have BB2 := hid (BB1.out.below hb); have HW2 := hid (HW1.out.trans (hb.mono HW1.out.size))
  clear hb BA1 BB1 HW1 x0 x1 y0 y1 hz
  cases hlg : lgt n m
  · go_wp2
    go_ret
    exact ⟨rfl, HW2.out⟩
  have hn60 : n ≤ 60 := by simp [lgt] at hlg; exact hlg.1
  have hm60 : m ≤ 60 := by simp [lgt] at hlg; exact hlg.2
  clear hlg
  obtain ⟨za, a0, a1⟩ := BA2.out
  obtain ⟨zb, b0, b1⟩ := BB2.out
  have CT1 : Hid (∀ W, Below w2.heap.size w2 W → Calls Tryz.prog 21 #[.agg #[.bool sa, .slice ao n ca]] W fun e w' => ∃ x c, e = .returned (.agg #[.bool sa, .slice x n c]) ∧ Below W.heap.size W w' ∧ Hid (Rd .u64 w' x n f)) := fun W hW =>
    (wTwin_c sa ao n ca f W (by omega) (HR.out.below (HW2.out.trans (hW.mono HW2.out.size)) (Nat.le_refl _)) NA.out).mono (fun e w' ⟨x, c, h1, h2, h3⟩ => ⟨x, c, h1, h2, h3.slice.2.2.2.1⟩)
  have CT2 : Hid (∀ W, Below w2.heap.size w2 W → Calls Tryz.prog 21 #[.agg #[.bool sb, .slice bo m cb]] W fun e w' => ∃ x c, e = .returned (.agg #[.bool sb, .slice x m c]) ∧ Below W.heap.size W w' ∧ Hid (Rd .u64 w' x m g)) := fun W hW =>
    (wTwin_c sb bo m cb g W (by omega) (HS.out.below (HW2.out.trans (hW.mono HW2.out.size)) (Nat.le_refl _)) NB.out).mono (fun e w' ⟨x, c, h1, h2, h3⟩ => ⟨x, c, h1, h2, h3.slice.2.2.2.1⟩)
  have CD : Hid (∀ (W : World) (x : Option Addr) (c : Nat) (y : Option Addr) (d : Nat), Rd .u64 W x n f → Rd .u64 W y m g → Calls Tryz.prog 20 #[.agg #[.bool sa, .slice x n c], .agg #[.bool sb, .slice y m d]] W fun e w' => ∃ r1 p1 k1 c1 q r2 p2 k2 c2 r er, e = .returned (.tuple #[.agg #[.bool r1, .slice p1 k1 c1], .agg #[.bool r2, .slice p2 k2 c2], .int .i64 er]) ∧ Below W.heap.size W w' ∧ Hid (WRes (n + 2) W w' r1 p1 k1 c1 q ∧ WRes (n + m + 1) W w' r2 p2 k2 c2 r ∧ WDiv sa sb n m f g r1 r2 k1 k2 q r er)) := fun W x c y d h1 h2 =>
    (wDivide_c sa sb x y n m c d f g W (by omega) (by omega) h1 h2 HF.out HG.out).mono (fun e w' ⟨r1, p1, k1, c1, q, r2, p2, k2, c2, r, er, h3, h4, h5, h6⟩ => ⟨r1, p1, k1, c1, q, r2, p2, k2, c2, r, er, h3, h4.res.bel, h4, h5, h6⟩)
  go_upto_region 5 with fail
  go_cut [5, 6, 7] from 17 to 25 (fun u v t wx => ∃ b5 b6 r1 p1 k1 c1 q r2 p2 k2 c2 r er, u = .pointer (some ⟨b5, 0, none⟩) ∧ v = .pointer (some ⟨b6, 0, none⟩) ∧ t = .int .i64 er ∧ RestAt w w2 wx sa ao n ca f sb bo m cb g b5 b6 r1 p1 k1 c1 q r2 p2 k2 c2 r er)
  case first =>
    go_region_held3 (fun w' => w'.cell? ⟨w.heap.size, 0, none⟩ = some (.bool sa) ∧ w'.cell? ⟨w.heap.size, 1, none⟩ = some (.slice ao n ca) ∧ w'.cell? ⟨w.heap.size + 1, 0, none⟩ = some (.bool sb) ∧ w'.cell? ⟨w.heap.size + 1, 1, none⟩ = some (.slice bo m cb))
      (refine ⟨?_, ?_, ?_, ?_⟩ <;> repeat (with_reducible first | assumption | refine kCd ?_ | refine kCa ?_ | refine kCs (by simp only [ne_eq]; omega) ?_ | refine kCb (by assumption) ?_))
      (first
        | (go_at_call 21; with_reducible refine (CT1.out _ (by repeat (with_reducible first | assumption | exact Below.refl _ _ | refine Below.drew ?_ | refine kBa ?_ | refine kBb (by assumption) ?_))).mono ?_; rintro e w3 ⟨xa, cxa, rfl, hb3, HOa⟩; have hza := hb3.size; (try simp at hza); obtain ⟨hc3, hf3⟩ := bcell hb3; (try have q100 : w2.heap.size < w3.heap.size := by omega); (try have q101 : w2.heap.size + 1 < w3.heap.size := by omega))
        | (go_at_call 21; with_reducible refine (CT2.out _ (by repeat (with_reducible first | assumption | exact Below.refl _ _ | refine Below.drew ?_ | refine kBa ?_ | refine kBb (by assumption) ?_))).mono ?_; rintro e w4 ⟨xb, cxb, rfl, hb4, HOb⟩; have hzb := hb4.size; (try simp at hzb); obtain ⟨hc4, hf4⟩ := bcell hb4; (try have q100 : w2.heap.size < w4.heap.size := by omega); (try have q101 : w2.heap.size + 1 < w4.heap.size := by omega); (try have q102 : w3.heap.size < w4.heap.size := by omega); (try have q103 : w3.heap.size + 1 < w4.heap.size := by omega))
        | (go_at_call 20; with_reducible refine (CD.out _ xa cxa xb cxb (by repeat (with_reducible first | exact HOa.out | refine kRd ?_ | refine kRa ?_ | refine kRb (by assumption) ?_)) (by repeat (with_reducible first | exact HOb.out | refine kRd ?_ | refine kRa ?_ | refine kRb (by assumption) ?_))).mono ?_; rintro e w5 ⟨r1, p1, k1, c1, q, r2, p2, k2, c2, r, er, rfl, hb5, HD⟩; have hzc := hb5.size; (try simp at hzc); obtain ⟨hc5, hf5⟩ := bcell hb5; (try have q100 : w2.heap.size < w5.heap.size := by omega); (try have q101 : w2.heap.size + 1 < w5.heap.size := by omega); (try have q102 : w3.heap.size < w5.heap.size := by omega); (try have q103 : w3.heap.size + 1 < w5.heap.size := by omega); (try have q104 : w4.heap.size < w5.heap.size := by omega); (try have q105 : w4.heap.size + 1 < w5.heap.size := by omega)))
    all_goals
      go_wp2_with fail
      go_meet
      refine ⟨_, _, r1, p1, k1, c1, q, r2, p2, k2, c2, r, er, rfl, rfl, rfl, rest_hold (by repeat (with_reducible first | assumption | exact Below.refl _ _ | refine Below.drew ?_ | refine kBa ?_ | refine kBb (by assumption) ?_)) HD.out (by repeat (with_reducible first | exact Turned.refl _ _ _ | refine Turned.drew ?_ | refine Turned.alloc ?_ _ | refine Turned.set ?_ (by first | omega | (simp; done) | (simp; omega)) (by first | omega | (simp; done) | (simp; omega)) _)) ⟨(by first | omega | (simp; done) | (simp; omega)), (by repeat (with_reducible first | assumption | exact kN0 | exact kN1 | (refine kM0 ?_; (simp <;> fail)) | (refine kM1 ?_; (simp <;> fail)) | exact kI0 kN0 | exact kI0 kN1 | (refine kI0 (kM0 ?_); (simp <;> fail)) | (refine kI0 (kM1 ?_); (simp <;> fail)) | refine kCd ?_ | refine kCe ?_ | refine kCo (by decide) ?_ | refine kCs (by simp only [ne_eq]; omega) ?_ | refine kCa ?_ | refine kCb (by assumption) ?_ | refine kId ?_ | refine kIs ?_ | refine kIa ?_ | refine kIb (by assumption) ?_)), (by repeat (with_reducible first | assumption | exact kN0 | exact kN1 | (refine kM0 ?_; (simp <;> fail)) | (refine kM1 ?_; (simp <;> fail)) | exact kI0 kN0 | exact kI0 kN1 | (refine kI0 (kM0 ?_); (simp <;> fail)) | (refine kI0 (kM1 ?_); (simp <;> fail)) | refine kCd ?_ | refine kCe ?_ | refine kCo (by decide) ?_ | refine kCs (by simp only [ne_eq]; omega) ?_ | refine kCa ?_ | refine kCb (by assumption) ?_ | refine kId ?_ | refine kIs ?_ | refine kIa ?_ | refine kIb (by assumption) ?_))⟩ ⟨(by first | omega | (simp; done) | (simp; omega)), (by repeat (with_reducible first | assumption | exact kN0 | exact kN1 | (refine kM0 ?_; (simp <;> fail)) | (refine kM1 ?_; (simp <;> fail)) | exact kI0 kN0 | exact kI0 kN1 | (refine kI0 (kM0 ?_); (simp <;> fail)) | (refine kI0 (kM1 ?_); (simp <;> fail)) | refine kCd ?_ | refine kCe ?_ | refine kCo (by decide) ?_ | refine kCs (by simp only [ne_eq]; omega) ?_ | refine kCa ?_ | refine kCb (by assumption) ?_ | refine kId ?_ | refine kIs ?_ | refine kIa ?_ | refine kIb (by assumption) ?_)), (by repeat (with_reducible first | assumption | exact kN0 | exact kN1 | (refine kM0 ?_; (simp <;> fail)) | (refine kM1 ?_; (simp <;> fail)) | exact kI0 kN0 | exact kI0 kN1 | (refine kI0 (kM0 ?_); (simp <;> fail)) | (refine kI0 (kM1 ?_); (simp <;> fail)) | refine kCd ?_ | refine kCe ?_ | refine kCo (by decide) ?_ | refine kCs (by simp only [ne_eq]; omega) ?_ | refine kCa ?_ | refine kCb (by assumption) ?_ | refine kId ?_ | refine kIs ?_ | refine kIa ?_ | refine kIb (by assumption) ?_))⟩ ⟨(by first | omega | (simp; done) | (simp; omega)), (by repeat (with_reducible first | assumption | exact kN0 | exact kN1 | (refine kM0 ?_; (simp <;> fail)) | (refine kM1 ?_; (simp <;> fail)) | exact kI0 kN0 | exact kI0 kN1 | (refine kI0 (kM0 ?_); (simp <;> fail)) | (refine kI0 (kM1 ?_); (simp <;> fail)) | refine kCd ?_ | refine kCe ?_ | refine kCo (by decide) ?_ | refine kCs (by simp only [ne_eq]; omega) ?_ | refine kCa ?_ | refine kCb (by assumption) ?_ | refine kId ?_ | refine kIs ?_ | refine kIa ?_ | refine kIb (by assumption) ?_)), (by repeat (with_reducible first | assumption | exact kN0 | exact kN1 | (refine kM0 ?_; (simp <;> fail)) | (refine kM1 ?_; (simp <;> fail)) | exact kI0 kN0 | exact kI0 kN1 | (refine kI0 (kM0 ?_); (simp <;> fail)) | (refine kI0 (kM1 ?_); (simp <;> fail)) | refine kCd ?_ | refine kCe ?_ | refine kCo (by decide) ?_ | refine kCs (by simp only [ne_eq]; omega) ?_ | refine kCa ?_ | refine kCb (by assumption) ?_ | refine kId ?_ | refine kIs ?_ | refine kIa ?_ | refine kIb (by assumption) ?_))⟩ ⟨(by first | omega | (simp; done) | (simp; omega)), (by repeat (with_reducible first | assumption | exact kN0 | exact kN1 | (refine kM0 ?_; (simp <;> fail)) | (refine kM1 ?_; (simp <;> fail)) | exact kI0 kN0 | exact kI0 kN1 | (refine kI0 (kM0 ?_); (simp <;> fail)) | (refine kI0 (kM1 ?_); (simp <;> fail)) | refine kCd ?_ | refine kCe ?_ | refine kCo (by decide) ?_ | refine kCs (by simp only [ne_eq]; omega) ?_ | refine kCa ?_ | refine kCb (by assumption) ?_ | refine kId ?_ | refine kIs ?_ | refine kIa ?_ | refine kIb (by assumption) ?_)), (by repeat (with_reducible first | assumption | exact kN0 | exact kN1 | (refine kM0 ?_; (simp <;> fail)) | (refine kM1 ?_; (simp <;> fail)) | exact kI0 kN0 | exact kI0 kN1 | (refine kI0 (kM0 ?_); (simp <;> fail)) | (refine kI0 (kM1 ?_); (simp <;> fail)) | refine kCd ?_ | refine kCe ?_ | refine kCo (by decide) ?_ | refine kCs (by simp only [ne_eq]; omega) ?_ | refine kCa ?_ | refine kCb (by assumption) ?_ | refine kId ?_ | refine kIs ?_ | refine kIa ?_ | refine kIb (by assumption) ?_))⟩⟩
  case rest =>
    clear CT1 CT2 CD a0 a1 b0 b1 za zb BA2 BB2
    obtain ⟨b5, b6, r1, p1, k1, c1, q, r2, p2, k2, c2, r, er, rfl, rfl, rfl, hba, hbb, hbq, hbr, hbel, ⟨vq, hwq⟩, ⟨vr, hwr⟩, hk1, hk2, hdv⟩ := hcut
    have HWx := hid (HW2.out.trans (hbel.mono HW2.out.size))
    have BQ3 := hid hbq; have BR3 := hid hbr; have WQ3 := hid hwq.self; have WR3 := hid hwr.self; have DV := hid hdv
    clear hbq hbr hbel hwq hwr HW2 hdv
    obtain ⟨za, a0, a1⟩ := hba
    obtain ⟨zb, b0, b1⟩ := hbb
    go_wp2_with fail
    refine (docDivide_g sa ao n ca f sb bo m cb g _ (HR.out.below HWx.out (Nat.le_refl _)) HF.out hn NA.out (HS.out.below HWx.out (Nat.le_refl _)) HG.out hm NB.out (by omega) (by omega)).mono ?_
    rintro e w6 ⟨r1', p1', k1', c1', q', r2', p2', k2', c2', r', er', rfl, hb, hk1', hk2', hwq', hwr', hdv'⟩
    obtain ⟨her, hvq, hvr⟩ := wdiv_agree DV.out hdv'
    subst her
    rw [← hvq] at hwq'
    rw [← hvr] at hwr'
    have BQ4 := hid (BQ3.out.below hb); have BR4 := hid (BR3.out.below hb); have WQ4 := hid (WQ3.out.below hb); have WR4 := hid (WR3.out.below hb); have WX4 := hid hwq'; have WY4 := hid hwr'; have HW4 := hid (HWx.out.trans (hb.mono HWx.out.size))
    have hee : (er' == er') = true := by simp
    clear hb hwq' hwr' hvq hvr hdv' za a0 a1 zb b0 b1 BQ3 BR3 WQ3 WR3 HWx DV
    obtain ⟨zq, q0, q1⟩ := BQ4.out
    obtain ⟨zr, y0, y1⟩ := BR4.out
    go_wp2_with fail
    refine (same_m ((WQ4.out.alloc _).alloc _) ((WX4.out.alloc _).alloc _) (by omega) (by omega)).mono ?_
    rintro e w7 ⟨rfl, hb⟩
    have BR5 := hid (((BR4.out.alloc _).alloc _).below hb); have WR5 := hid (((WR4.out.alloc _).alloc _).below hb); have WY5 := hid (((WY4.out.alloc _).alloc _).below hb)
    have BY5 : Hid (Bx w7 (w6.heap.size + 1) r2' p2' k2' c2') := by
      refine Bx.below ?_ hb
      have := size_alloc1 w6 (.cells #[.bool r1', .slice p1' k1' c1'] 36)
      refine ⟨by simp, ?_, ?_⟩
      · rw [← this]; exact kN0
      · rw [← this]; exact kN1
    have HW5 := hid ((below_alloc (below_alloc HW4.out _) _).trans (hb.mono (below_alloc (below_alloc HW4.out _) _).size))
    clear hb zq q0 q1 zr y0 y1 BQ4 BR4 WQ4 WR4 WX4 WY4 HW4
    obtain ⟨zr, y0, y1⟩ := BR5.out
    obtain ⟨zy, t0, t1⟩ := BY5.out
    go_wp2_with fail
    refine (same_m WR5.out WY5.out (by omega) (by omega)).mono ?_
    rintro e w8 ⟨rfl, hb⟩
    have HW6 := hid (HW5.out.trans (hb.mono HW5.out.size))
    clear hb
    go_wp2
    go_ret
    exact ⟨rfl, HW6.out⟩
end Go.Proofs.YtbmdhfpgkemilaaGreatDoor

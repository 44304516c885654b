/-
  The walks of slices.Equal of limbs, and of package model's sameRat, sameExt, sameTerm. The walks of package model's sameExt, sameTerm, sameCol, sameRow, and of slices.EqualFunc with them (written by makers/f12.py). The walks of slices.EqualFunc of terms, columns and rows, and of package model's sameRow (written by makers/f13.py). The walks of package model's Least and Equal (written by makers/f14.py). The walks of the reference's Name, bounds and Least (written by makers/f16.py). The statements' looks at how long the numbers of lists are (light, Lights).
-/
import Derived.Test.YtbmfcogfgdggkaaGreatZ6
import Derived.Deep.RegionHeld3
import Derived.Test.YtbmfcogfgdggkaaGreatZ5
import Derived.Test.YtbmfcogfgdggkaaGreatZ4
namespace Go.Proofs.YtbmfcogfgdggkaaGreat
open Go.RowKit

/-- The r limbs from place i on are the same. -/
def eqs (f g : Nat → Int) : Nat → Nat → Bool
  | 0, _ => true
  | r + 1, i => decide (f i = g i) && eqs f g r (i + 1)
def eqlB (n m : Nat) (f g : Nat → Int) : Bool := decide (n = m) && eqs f g n 0
def sqB (a b : Nm) : Bool := decide (a.s = b.s) && (eqlB a.n b.n a.f b.f && eqlB a.m b.m a.g b.g)
def sxB (a b : Ex) : Bool := decide (a.i = b.i) && sqB a.v b.v

set_option maxRecDepth 100000 in
set_option maxHeartbeats 2000000 in
theorem equalU_c {w : World} {x y : Option Addr} {n m c d : Nat} {f g : Nat → Int} (hx : Rd .u64 w x n f) (hy : Rd .u64 w y m g) (hn : n ≤ 1048576) (hm : m ≤ 1048576) :
    Calls Tryz.prog 90 #[.slice x n c, .slice y m d] w fun e w' => e = .returned (.bool (eqlB n m f g)) ∧ Below w.heap.size w w' := by
  have HX := hid hx; have HY := hid hy
  clear hx hy
  by_cases hnm : n = m
  case neg =>
    have HE := hid (show eqlB n m f g = false from by simp [eqlB, hnm])
    have e1 : ((n : Int) != (m : Int)) = true := by simp; omega
    clear hnm
    go_enter Tryz.func90, Tryz.ntmps90
    go_wp2
    go_ret
    refine ⟨?_, Below.refl _ _⟩
    rw [HE.out]; rfl
  subst hnm
  have HE := hid (show eqlB n n f g = eqs f g n 0 from by simp [eqlB])
  have e1 : ((n : Int) != (n : Int)) = false := by simp
  go_enter Tryz.func90, Tryz.ntmps90
  go_wp2_with fail
  go_loopw [13] (fun t wr => ∃ (i : Nat), i ≤ n ∧ t = .int .i64 i ∧ Hid (Below w.heap.size w wr) ∧ Hid (eqlB n n f g = eqs f g (n - i) i)) (fun t _ => n - (intOf t).toNat)
  case atStart => exact ⟨0, by omega, rfl, Below.refl _ _, HE.out⟩
  case round =>
    obtain ⟨i, hi, rfl, HB, HI⟩ := hrel
    by_cases hlt : i < n
    · obtain ⟨b, o, rfl, hc⟩ := (HX.out.below HB.out (Nat.le_refl _)) i hlt
      obtain ⟨b2, o2, rfl, hc2⟩ := (HY.out.below HB.out (Nat.le_refl _)) i hlt
      obtain ⟨r, hr⟩ : ∃ r, n - i = r + 1 := ⟨n - i - 1, by omega⟩
      have hT : eqlB n n f g = (decide (f i = g i) && eqs f g r (i + 1)) := by rw [HI.out, hr]; rfl
      have hr2 : n - (i + 1) = r := by omega
      obtain ⟨u, hu⟩ : ∃ u, f i = u := ⟨_, rfl⟩
      obtain ⟨v, hv⟩ : ∃ v, g i = v := ⟨_, rfl⟩
      rw [hu, hv] at hT
      rw [hu] at hc
      rw [hv] at hc2
      have HT := hid hT; have HR := hid hr2
      have i1 : ((i : Nat) : Int) < ((n : Nat) : Int) := by omega
      clear hT hr2 hr hu hv
      by_cases huv : u = v
      · subst huv
        have e2 : (u != u) = false := by simp
        go_upto_region 6 with fail
        have k1 : wr.drew.cell? ⟨b, o + i, none⟩ = some (.int .u64 u) := hc
        have k2 : wr.drew.cell? ⟨b2, o2 + i, none⟩ = some (.int .u64 u) := hc2
        go_quiet (fail)
        go_wp2
        go_roundw
        case rel =>
          refine ⟨i + 1, by omega, by go_num, (below_drewN HB.out _), ?_⟩
          show _ = _
          rw [HT.out, HR.out]; simp
        case measure => simp [intOf]; omega
      · have e2 : (u != v) = true := by simp [huv]
        go_upto_region 6 with fail
        have k1 : wr.drew.cell? ⟨b, o + i, none⟩ = some (.int .u64 u) := hc
        have k2 : wr.drew.cell? ⟨b2, o2 + i, none⟩ = some (.int .u64 v) := hc2
        go_quiet (fail)
        go_wp2
        go_ret
        refine ⟨?_, (below_drewN HB.out _)⟩
        rw [HT.out]; simp [huv]
    · have e1 : i = n := by omega
      have HE : Hid (eqlB n n f g = true) := by show _ = _; rw [HI.out, e1, Nat.sub_self]; rfl
      have i2 : ¬ (((i : Nat) : Int) < ((n : Nat) : Int)) := by omega
      clear e1 HI
      go_wp2
      go_ret
      refine ⟨?_, HB.out⟩
      rw [HE.out]; rfl

set_option maxRecDepth 100000 in
set_option maxHeartbeats 2000000 in
theorem sameRat_c {w : World} {a b : Nm} (ha : NmS w a) (hb : NmS w b) : Calls Tryz.prog 59 #[a.val, b.val] w fun r w' => r = .returned (.bool (sqB a b)) ∧ Below w.heap.size w w' := by
  have C1 := hid (fun w' (hw : Below w.heap.size w w') => equalU_c (w := w') (c := a.c) (d := b.c) (ha.1.rx.below hw (Nat.le_refl _)) (hb.1.rx.below hw (Nat.le_refl _)) (by have := ha.2.1; omega) (by have := hb.2.1; omega))
  have C2 := hid (fun w' (hw : Below w.heap.size w w') => equalU_c (w := w') (c := a.d) (d := b.d) (ha.1.ry.below hw (Nat.le_refl _)) (hb.1.ry.below hw (Nat.le_refl _)) (by have := ha.2.2; omega) (by have := hb.2.2; omega))
  obtain ⟨t1, ht1⟩ : ∃ t, eqlB a.n b.n a.f b.f = t := ⟨_, rfl⟩
  obtain ⟨t2, ht2⟩ : ∃ t, eqlB a.m b.m a.g b.g = t := ⟨_, rfl⟩
  obtain ⟨ans, hans⟩ : ∃ t, sqB a b = t := ⟨_, rfl⟩
  have hA : ans = (decide (a.s = b.s) && (t1 && t2)) := by rw [← hans, ← ht1, ← ht2]; rfl
  rw [ht1] at C1
  rw [ht2] at C2
  rw [hans]
  clear hans ht1 ht2 ha hb
  obtain ⟨s, x, n, c, f, y, m, d, g⟩ := a
  obtain ⟨s2, x2, n2, c2, f2, y2, m2, d2, g2⟩ := b
  have HA : Hid (ans = (decide (s = s2) && (t1 && t2))) := hA
  replace C1 : Hid (∀ w' (hw : Below w.heap.size w w'), Calls Tryz.prog 90 #[.slice x n c, .slice x2 n2 c2] w' fun e w2 => e = .returned (.bool t1) ∧ Below w'.heap.size w' w2) := C1
  replace C2 : Hid (∀ w' (hw : Below w.heap.size w w'), Calls Tryz.prog 90 #[.slice y m d, .slice y2 m2 d2] w' fun e w2 => e = .returned (.bool t2) ∧ Below w'.heap.size w' w2) := C2
  clear hA
  show Calls Tryz.prog 59 #[.agg #[.bool s, .slice x n c, .slice y m d], .agg #[.bool s2, .slice x2 n2 c2, .slice y2 m2 d2]] w _
  have HB0 := hid (below_alloc (below_alloc (Below.refl w.heap.size w) (.cells #[.bool s, .slice x n c, .slice y m d] 24)) (.cells #[.bool s2, .slice x2 n2 c2, .slice y2 m2 d2] 24))
  by_cases hs : s = s2
  case neg =>
    have HS := hid (show decide (s = s2) = false from by simp [hs])
    have e1 : (s == s2) = false := by simpa using hs
    go_enter Tryz.func59, Tryz.ntmps59
    go_wp2
    go_ret
    refine ⟨?_, HB0.out⟩
    rw [HA.out, HS.out]; rfl
  subst hs
  have HS := hid (show decide (s = s) = true from by simp)
  have e1 : (s == s) = true := by simp
  go_enter Tryz.func59, Tryz.ntmps59
  go_wp2_with fail
  refine (C1.out _ HB0.out).mono ?_
  rintro r w1 ⟨rfl, hb1⟩
  have k1 := kCb hb1 (a := ⟨w.heap.size, 2, none⟩) (v := .slice y m d) (by simp [go_sem])
  have k2 := kCb hb1 (a := ⟨w.heap.size + 1, 2, none⟩) (v := .slice y2 m2 d2) (by simp [go_sem])
  have HB1 := hid (HB0.out.trans (hb1.mono HB0.out.size))
  clear hb1 HB0 C1
  cases t1
  · go_wp2
    go_ret
    refine ⟨?_, HB1.out⟩
    rw [HA.out, HS.out]; rfl
  · go_wp2_with fail
    refine (C2.out _ HB1.out).mono ?_
    rintro r w2 ⟨rfl, hb2⟩
    have HB2 := hid (HB1.out.trans (hb2.mono HB1.out.size))
    clear hb2 HB1 C2
    go_wp2
    go_ret
    refine ⟨?_, HB2.out⟩
    rw [HA.out, HS.out]
    cases t2 <;> rfl
end Go.Proofs.YtbmfcogfgdggkaaGreat
namespace Go.Proofs.YtbmfcogfgdggkaaGreat
open Go.RowKit

set_option maxRecDepth 100000 in
set_option maxHeartbeats 2000000 in
theorem sameExt_c {w : World} {a b : Ex} (ha : NmS w a.v) (hb : NmS w b.v) : Calls Tryz.prog 91 #[a.val, b.val] w fun r w' => r = .returned (.bool (sxB a b)) ∧ Below w.heap.size w w' := by
  have C1 := hid (fun w' (hw : Below w.heap.size w w') => sameRat_c (w := w') (ha.below hw) (hb.below hw))
  obtain ⟨t1, ht1⟩ : ∃ t, sqB a.v b.v = t := ⟨_, rfl⟩
  obtain ⟨ans, hans⟩ : ∃ t, sxB a b = t := ⟨_, rfl⟩
  have hA : ans = (decide (a.i = b.i) && t1) := by rw [← hans, ← ht1]; rfl
  rw [ht1] at C1
  rw [hans]
  clear hans ht1 ha hb
  obtain ⟨i, ⟨s, x, n, c, f, y, m, d, g⟩⟩ := a
  obtain ⟨vi, ⟨vs, vx, vn, vc, vf', vy, vm, vd, vg⟩⟩ := b
  have HA : Hid (ans = (decide (i = vi) && t1)) := hA
  replace C1 : Hid (∀ w' (hw : Below w.heap.size w w'), Calls Tryz.prog 59 #[.agg #[.bool s, .slice x n c, .slice y m d], .agg #[.bool vs, .slice vx vn vc, .slice vy vm vd]] w' fun e w2 => e = .returned (.bool t1) ∧ Below w'.heap.size w' w2) := C1
  clear hA
  show Calls Tryz.prog 91 #[.agg #[.int .i64 i, .bool s, .slice x n c, .slice y m d], .agg #[.int .i64 vi, .bool vs, .slice vx vn vc, .slice vy vm vd]] w _
  have HB0 := hid (below_alloc (below_alloc (Below.refl w.heap.size w) (.cells #[.int .i64 i, .bool s, .slice x n c, .slice y m d] 73)) (.cells #[.int .i64 vi, .bool vs, .slice vx vn vc, .slice vy vm vd] 73))
  by_cases hs : i = vi
  case neg =>
    have HS := hid (show decide (i = vi) = false from by simp [hs])
    have e1 : (i == vi) = false := by simpa using hs
    go_enter Tryz.func91, Tryz.ntmps91
    go_wp2
    go_ret
    refine ⟨?_, HB0.out⟩
    rw [HA.out, HS.out]; rfl
  subst hs
  have HS := hid (show decide (i = i) = true from by simp)
  have e1 : (i == i) = true := by simp
  go_enter Tryz.func91, Tryz.ntmps91
  go_wp2_with fail
  refine (C1.out _ HB0.out).mono ?_
  rintro r w1 ⟨rfl, hb1⟩
  have HB1 := hid (HB0.out.trans (hb1.mono HB0.out.size))
  clear hb1 C1
  cases t1
  · go_wp2
    go_ret
    refine ⟨?_, HB1.out⟩
    rw [HA.out, HS.out]; rfl
  · go_wp2
    go_ret
    refine ⟨?_, HB1.out⟩
    rw [HA.out, HS.out]; rfl
set_option maxRecDepth 100000 in
set_option maxHeartbeats 2000000 in
theorem sameTerm_c {w : World} {a b : Ex} (ha : NmS w a.v) (hb : NmS w b.v) : Calls Tryz.prog 93 #[a.val, b.val] w fun r w' => r = .returned (.bool (sxB a b)) ∧ Below w.heap.size w w' := by
  have C1 := hid (fun w' (hw : Below w.heap.size w w') => sameRat_c (w := w') (ha.below hw) (hb.below hw))
  obtain ⟨t1, ht1⟩ : ∃ t, sqB a.v b.v = t := ⟨_, rfl⟩
  obtain ⟨ans, hans⟩ : ∃ t, sxB a b = t := ⟨_, rfl⟩
  have hA : ans = (decide (a.i = b.i) && t1) := by rw [← hans, ← ht1]; rfl
  rw [ht1] at C1
  rw [hans]
  clear hans ht1 ha hb
  obtain ⟨i, ⟨s, x, n, c, f, y, m, d, g⟩⟩ := a
  obtain ⟨vi, ⟨vs, vx, vn, vc, vf', vy, vm, vd, vg⟩⟩ := b
  have HA : Hid (ans = (decide (i = vi) && t1)) := hA
  replace C1 : Hid (∀ w' (hw : Below w.heap.size w w'), Calls Tryz.prog 59 #[.agg #[.bool s, .slice x n c, .slice y m d], .agg #[.bool vs, .slice vx vn vc, .slice vy vm vd]] w' fun e w2 => e = .returned (.bool t1) ∧ Below w'.heap.size w' w2) := C1
  clear hA
  show Calls Tryz.prog 93 #[.agg #[.int .i64 i, .bool s, .slice x n c, .slice y m d], .agg #[.int .i64 vi, .bool vs, .slice vx vn vc, .slice vy vm vd]] w _
  have HB0 := hid (below_alloc (below_alloc (Below.refl w.heap.size w) (.cells #[.int .i64 i, .bool s, .slice x n c, .slice y m d] 62)) (.cells #[.int .i64 vi, .bool vs, .slice vx vn vc, .slice vy vm vd] 62))
  by_cases hs : i = vi
  case neg =>
    have HS := hid (show decide (i = vi) = false from by simp [hs])
    have e1 : (i == vi) = false := by simpa using hs
    go_enter Tryz.func93, Tryz.ntmps93
    go_wp2
    go_ret
    refine ⟨?_, HB0.out⟩
    rw [HA.out, HS.out]; rfl
  subst hs
  have HS := hid (show decide (i = i) = true from by simp)
  have e1 : (i == i) = true := by simp
  go_enter Tryz.func93, Tryz.ntmps93
  go_wp2_with fail
  refine (C1.out _ HB0.out).mono ?_
  rintro r w1 ⟨rfl, hb1⟩
  have HB1 := hid (HB0.out.trans (hb1.mono HB0.out.size))
  clear hb1 C1
  cases t1
  · go_wp2
    go_ret
    refine ⟨?_, HB1.out⟩
    rw [HA.out, HS.out]; rfl
  · go_wp2
    go_ret
    refine ⟨?_, HB1.out⟩
    rw [HA.out, HS.out]; rfl
/-- Are two columns the same? -/
def scB (a b : Lc) : Bool := decide (a.nm = b.nm) && (sqB a.cost b.cost && (sxB a.lo b.lo && sxB a.hi b.hi))
def Lc.val (c : Lc) : Value := .agg c.vs.toArray
set_option maxRecDepth 100000 in
set_option maxHeartbeats 4000000 in
theorem sameCol_c {w : World} {a b : Lc} (ha : LcR w a) (hb : LcR w b) : Calls Tryz.prog 61 #[a.val, b.val] w fun r w' => r = .returned (.bool (scB a b)) ∧ Below w.heap.size w w' := by
  have C1 := hid (fun w' (hw : Below w.heap.size w w') => sameRat_c (w := w') (ha.cost.below hw) (hb.cost.below hw))
  have C2 := hid (fun w' (hw : Below w.heap.size w w') => sameExt_c (w := w') (ha.lo.below hw) (hb.lo.below hw))
  have C3 := hid (fun w' (hw : Below w.heap.size w w') => sameExt_c (w := w') (ha.hi.below hw) (hb.hi.below hw))
  obtain ⟨t1, ht1⟩ : ∃ t, sqB a.cost b.cost = t := ⟨_, rfl⟩
  obtain ⟨t2, ht2⟩ : ∃ t, sxB a.lo b.lo = t := ⟨_, rfl⟩
  obtain ⟨t3, ht3⟩ : ∃ t, sxB a.hi b.hi = t := ⟨_, rfl⟩
  obtain ⟨ans, hans⟩ : ∃ t, scB a b = t := ⟨_, rfl⟩
  have hA : ans = (decide (a.nm = b.nm) && (t1 && (t2 && t3))) := by rw [← hans, ← ht1, ← ht2, ← ht3]; rfl
  rw [ht1] at C1
  rw [ht2] at C2
  rw [ht3] at C3
  rw [hans]
  clear hans ht1 ht2 ht3 ha hb
  obtain ⟨z, ⟨s0, x0, n0, c0, f0, y0, m0, d0, g0⟩, ⟨i1, ⟨s1, x1, n1, c1, f1, y1, m1, d1, g1⟩⟩, ⟨i2, ⟨s2, x2, n2, c2, f2, y2, m2, d2, g2⟩⟩⟩ := a
  obtain ⟨vz, ⟨vs0, vx0, vn0, vc0, vf0, vy0, vm0, vd0, vg0⟩, ⟨vi1, ⟨vs1, vx1, vn1, vc1, vf1, vy1, vm1, vd1, vg1⟩⟩, ⟨vi2, ⟨vs2, vx2, vn2, vc2, vf2, vy2, vm2, vd2, vg2⟩⟩⟩ := b
  have HA : Hid (ans = (decide (z = vz) && (t1 && (t2 && t3)))) := hA
  replace C1 : Hid (∀ w' (hw : Below w.heap.size w w'), Calls Tryz.prog 59 #[.agg #[.bool s0, .slice x0 n0 c0, .slice y0 m0 d0], .agg #[.bool vs0, .slice vx0 vn0 vc0, .slice vy0 vm0 vd0]] w' fun e w2 => e = .returned (.bool t1) ∧ Below w'.heap.size w' w2) := C1
  replace C2 : Hid (∀ w' (hw : Below w.heap.size w w'), Calls Tryz.prog 91 #[.agg #[.int .i64 i1, .bool s1, .slice x1 n1 c1, .slice y1 m1 d1], .agg #[.int .i64 vi1, .bool vs1, .slice vx1 vn1 vc1, .slice vy1 vm1 vd1]] w' fun e w2 => e = .returned (.bool t2) ∧ Below w'.heap.size w' w2) := C2
  replace C3 : Hid (∀ w' (hw : Below w.heap.size w w'), Calls Tryz.prog 91 #[.agg #[.int .i64 i2, .bool s2, .slice x2 n2 c2, .slice y2 m2 d2], .agg #[.int .i64 vi2, .bool vs2, .slice vx2 vn2 vc2, .slice vy2 vm2 vd2]] w' fun e w2 => e = .returned (.bool t3) ∧ Below w'.heap.size w' w2) := C3
  clear hA
  show Calls Tryz.prog 61 #[.agg #[.string z, .bool s0, .slice x0 n0 c0, .slice y0 m0 d0, .int .i64 i1, .bool s1, .slice x1 n1 c1, .slice y1 m1 d1, .int .i64 i2, .bool s2, .slice x2 n2 c2, .slice y2 m2 d2], .agg #[.string vz, .bool vs0, .slice vx0 vn0 vc0, .slice vy0 vm0 vd0, .int .i64 vi1, .bool vs1, .slice vx1 vn1 vc1, .slice vy1 vm1 vd1, .int .i64 vi2, .bool vs2, .slice vx2 vn2 vc2, .slice vy2 vm2 vd2]] w _
  have HB0 := hid (below_alloc (below_alloc (Below.refl w.heap.size w) (.cells #[.string z, .bool s0, .slice x0 n0 c0, .slice y0 m0 d0, .int .i64 i1, .bool s1, .slice x1 n1 c1, .slice y1 m1 d1, .int .i64 i2, .bool s2, .slice x2 n2 c2, .slice y2 m2 d2] 77)) (.cells #[.string vz, .bool vs0, .slice vx0 vn0 vc0, .slice vy0 vm0 vd0, .int .i64 vi1, .bool vs1, .slice vx1 vn1 vc1, .slice vy1 vm1 vd1, .int .i64 vi2, .bool vs2, .slice vx2 vn2 vc2, .slice vy2 vm2 vd2] 77))
  by_cases hs : z = vz
  case neg =>
    have HS := hid (show decide (z = vz) = false from by simp [hs])
    have e1 := str_ne hs
    go_enter Tryz.func61, Tryz.ntmps61
    go_wp2
    go_ret
    refine ⟨?_, HB0.out⟩
    rw [HA.out, HS.out]; rfl
  subst hs
  have HS := hid (show decide (z = z) = true from by simp)
  have e1 : (z.toList == z.toList) = true := by simp
  go_enter Tryz.func61, Tryz.ntmps61
  go_wp2_with fail
  refine (C1.out _ HB0.out).mono ?_
  rintro r w1 ⟨rfl, hb1⟩
  have p4 := kCb hb1 (a := ⟨w.heap.size, 4, none⟩) (v := .int .i64 i1) (by simp [go_sem])
  have r4 := kCb hb1 (a := ⟨w.heap.size + 1, 4, none⟩) (v := .int .i64 vi1) (by simp [go_sem])
  have p5 := kCb hb1 (a := ⟨w.heap.size, 5, none⟩) (v := .bool s1) (by simp [go_sem])
  have r5 := kCb hb1 (a := ⟨w.heap.size + 1, 5, none⟩) (v := .bool vs1) (by simp [go_sem])
  have p6 := kCb hb1 (a := ⟨w.heap.size, 6, none⟩) (v := .slice x1 n1 c1) (by simp [go_sem])
  have r6 := kCb hb1 (a := ⟨w.heap.size + 1, 6, none⟩) (v := .slice vx1 vn1 vc1) (by simp [go_sem])
  have p7 := kCb hb1 (a := ⟨w.heap.size, 7, none⟩) (v := .slice y1 m1 d1) (by simp [go_sem])
  have r7 := kCb hb1 (a := ⟨w.heap.size + 1, 7, none⟩) (v := .slice vy1 vm1 vd1) (by simp [go_sem])
  have p8 := kCb hb1 (a := ⟨w.heap.size, 8, none⟩) (v := .int .i64 i2) (by simp [go_sem])
  have r8 := kCb hb1 (a := ⟨w.heap.size + 1, 8, none⟩) (v := .int .i64 vi2) (by simp [go_sem])
  have p9 := kCb hb1 (a := ⟨w.heap.size, 9, none⟩) (v := .bool s2) (by simp [go_sem])
  have r9 := kCb hb1 (a := ⟨w.heap.size + 1, 9, none⟩) (v := .bool vs2) (by simp [go_sem])
  have p10 := kCb hb1 (a := ⟨w.heap.size, 10, none⟩) (v := .slice x2 n2 c2) (by simp [go_sem])
  have r10 := kCb hb1 (a := ⟨w.heap.size + 1, 10, none⟩) (v := .slice vx2 vn2 vc2) (by simp [go_sem])
  have p11 := kCb hb1 (a := ⟨w.heap.size, 11, none⟩) (v := .slice y2 m2 d2) (by simp [go_sem])
  have r11 := kCb hb1 (a := ⟨w.heap.size + 1, 11, none⟩) (v := .slice vy2 vm2 vd2) (by simp [go_sem])
  have HB1 := hid (HB0.out.trans (hb1.mono HB0.out.size))
  clear hb1 C1
  cases t1
  · go_wp2
    go_ret
    refine ⟨?_, HB1.out⟩
    rw [HA.out, HS.out]; rfl
  go_wp2_with fail
  refine (C2.out _ HB1.out).mono ?_
  rintro r w2 ⟨rfl, hb2⟩
  replace p8 := kCb hb2 p8; replace r8 := kCb hb2 r8
  replace p9 := kCb hb2 p9; replace r9 := kCb hb2 r9
  replace p10 := kCb hb2 p10; replace r10 := kCb hb2 r10
  replace p11 := kCb hb2 p11; replace r11 := kCb hb2 r11
  have HB2 := hid (HB1.out.trans (hb2.mono HB1.out.size))
  clear hb2 C2
  cases t2
  · go_wp2
    go_ret
    refine ⟨?_, HB2.out⟩
    rw [HA.out, HS.out]; rfl
  go_wp2_with fail
  refine (C3.out _ HB2.out).mono ?_
  rintro r w3 ⟨rfl, hb3⟩
  have HB3 := hid (HB2.out.trans (hb3.mono HB2.out.size))
  clear hb3 C3
  cases t3
  · go_wp2
    go_ret
    refine ⟨?_, HB3.out⟩
    rw [HA.out, HS.out]; rfl
  · go_wp2
    go_ret
    refine ⟨?_, HB3.out⟩
    rw [HA.out, HS.out]; rfl
end Go.Proofs.YtbmfcogfgdggkaaGreat
namespace Go.Proofs.YtbmfcogfgdggkaaGreat
open Go.RowKit

/-- The r elements from place i on are the same. -/
def eqf {α : Type} (e : α → α → Bool) (X Y : Nat → α) : Nat → Nat → Bool
  | 0, _ => true
  | r + 1, i => e (X i) (Y i) && eqf e X Y r (i + 1)
def eqfB {α : Type} (e : α → α → Bool) (n m : Nat) (X Y : Nat → α) : Bool := decide (n = m) && eqf e X Y n 0
/-- A list of terms as a list of numbers with a column each. -/
def tex (col : Nat → Int) (T : Nat → Nm) (j : Nat) : Ex := ⟨col j, T j⟩
def Ex.vs (e : Ex) : List Value := [.int .i64 e.i, .bool e.v.s, .slice e.v.x e.v.n e.v.c, .slice e.v.y e.v.m e.v.d]
theorem Tl.tex {w ao k col T} (h : Tl w ao k col T) : ∀ j, j < k → ∃ b o, ao = some ⟨b, o, none⟩ ∧ Cs w b (o + j * 4) (tex col T j).vs ∧ NmS w (tex col T j).v := fun j hj => by
  obtain ⟨b, o, e, h1, h2⟩ := h j hj
  refine ⟨b, o, e, fun i v hv => ?_, h2⟩
  match i, hv with
  | 0, hv => cases hv; exact h1.x0
  | 1, hv => cases hv; exact h1.x1
  | 2, hv => cases hv; exact h1.x2
  | 3, hv => cases hv; exact h1.x3
set_option maxRecDepth 100000 in
set_option maxHeartbeats 4000000 in
theorem equalTs_c {w : World} {ao bo : Option Addr} {k l cap cap' : Nat} {X Y : Nat → Ex} (hx : ∀ j, j < k → ∃ b o, ao = some ⟨b, o, none⟩ ∧ Cs w b (o + j * 4) (X j).vs ∧ NmS w (X j).v) (hy : ∀ j, j < l → ∃ b o, bo = some ⟨b, o, none⟩ ∧ Cs w b (o + j * 4) (Y j).vs ∧ NmS w (Y j).v) (hk : k ≤ 1048576) (hl : l ≤ 1048576) :
    Calls Tryz.prog 92 #[.slice ao k cap, .slice bo l cap', .func (.func 93) #[] #[]] w fun e w' => e = .returned (.bool (eqfB sxB k l X Y)) ∧ Below w.heap.size w w' := by
  have HX := hid hx; have HY := hid hy
  clear hx hy
  by_cases hkl : k = l
  case neg =>
    have HE := hid (show eqfB sxB k l X Y = false from by simp [eqfB, hkl])
    have e1 : ((k : Int) != (l : Int)) = true := by simp; omega
    clear hkl
    go_enter Tryz.func92, Tryz.ntmps92
    go_wp2
    go_ret
    refine ⟨?_, Below.refl _ _⟩
    rw [HE.out]; rfl
  subst hkl
  have HE := hid (show eqfB sxB k k X Y = eqf sxB X Y k 0 from by simp [eqfB])
  have e1 : ((k : Int) != (k : Int)) = false := by simp
  go_enter Tryz.func92, Tryz.ntmps92
  go_wp2_with fail
  go_loopw [17] (fun t wr => ∃ (i : Nat), i ≤ k ∧ t = .int .i64 i ∧ Hid (Below w.heap.size w wr) ∧ Hid (eqfB sxB k k X Y = eqf sxB X Y (k - i) i)) (fun t _ => k - (intOf t).toNat)
  case atStart => exact ⟨0, by omega, rfl, Below.refl _ _, HE.out⟩
  case round =>
    obtain ⟨i, hi, rfl, HB, HI⟩ := hrel
    by_cases hlt : i < k
    · obtain ⟨b, o, rfl, hc, hn⟩ := HX.out i hlt
      obtain ⟨b2, o2, rfl, hc2, hn2⟩ := HY.out i hlt
      replace hc := hc.below HB.out; replace hc2 := hc2.below HB.out; replace hn := hn.below HB.out; replace hn2 := hn2.below HB.out
      obtain ⟨r, hr⟩ : ∃ r, k - i = r + 1 := ⟨k - i - 1, by omega⟩
      obtain ⟨t1, ht1⟩ : ∃ t, sxB (X i) (Y i) = t := ⟨_, rfl⟩
      have hT : eqfB sxB k k X Y = (t1 && eqf sxB X Y r (i + 1)) := by rw [HI.out, hr, ← ht1]; rfl
      have hr2 : k - (i + 1) = r := by omega
      have CE := hid (fun w' (hw : Below wr.heap.size wr w') => sameTerm_c (w := w') (hn.below hw) (hn2.below hw))
      rw [ht1] at CE
      obtain ⟨⟨j0, ⟨s0, x0, n0, c0, f0, y0, m0, d0, g0⟩⟩, hCi⟩ : ∃ t, X i = t := ⟨_, rfl⟩
      obtain ⟨⟨vj0, ⟨vs0, vx0, vn0, vc0, vf0, vy0, vm0, vd0, vg0⟩⟩, hCi2⟩ : ∃ t, Y i = t := ⟨_, rfl⟩
      rw [hCi] at hc CE
      rw [hCi2] at hc2 CE
      replace CE : Hid (∀ w' (hw : Below wr.heap.size wr w'), Calls Tryz.prog 93 #[.agg #[.int .i64 j0, .bool s0, .slice x0 n0 c0, .slice y0 m0 d0], .agg #[.int .i64 vj0, .bool vs0, .slice vx0 vn0 vc0, .slice vy0 vm0 vd0]] w' fun e w2 => e = .returned (.bool t1) ∧ Below w'.heap.size w' w2) := CE
      have hb1 := below_alloc (Below.refl wr.heap.size wr) (.cells #[.int .i64 j0, .bool s0, .slice x0 n0 c0, .slice y0 m0 d0] 62)
      have q0 : wr.cell? ⟨b, o + i * 4, none⟩ = some (.int .i64 j0) := hc 0 _ rfl
      have q1 : wr.cell? ⟨b, o + i * 4 + 1, none⟩ = some (.bool s0) := hc 1 _ rfl
      have q2 : wr.cell? ⟨b, o + i * 4 + 2, none⟩ = some (.slice x0 n0 c0) := hc 2 _ rfl
      have q3 : wr.cell? ⟨b, o + i * 4 + 3, none⟩ = some (.slice y0 m0 d0) := hc 3 _ rfl
      have g0' : (wr.alloc (.cells #[.int .i64 j0, .bool s0, .slice x0 n0 c0, .slice y0 m0 d0] 62)).cell? ⟨b2, o2 + i * 4, none⟩ = some (.int .i64 vj0) := kCb hb1 (hc2 0 _ rfl)
      have g1' : (wr.alloc (.cells #[.int .i64 j0, .bool s0, .slice x0 n0 c0, .slice y0 m0 d0] 62)).cell? ⟨b2, o2 + i * 4 + 1, none⟩ = some (.bool vs0) := kCb hb1 (hc2 1 _ rfl)
      have g2' : (wr.alloc (.cells #[.int .i64 j0, .bool s0, .slice x0 n0 c0, .slice y0 m0 d0] 62)).cell? ⟨b2, o2 + i * 4 + 2, none⟩ = some (.slice vx0 vn0 vc0) := kCb hb1 (hc2 2 _ rfl)
      have g3' : (wr.alloc (.cells #[.int .i64 j0, .bool s0, .slice x0 n0 c0, .slice y0 m0 d0] 62)).cell? ⟨b2, o2 + i * 4 + 3, none⟩ = some (.slice vy0 vm0 vd0) := kCb hb1 (hc2 3 _ rfl)
      have p0 : ((wr.alloc (.cells #[.int .i64 j0, .bool s0, .slice x0 n0 c0, .slice y0 m0 d0] 62)).alloc (.cells #[.int .i64 vj0, .bool vs0, .slice vx0 vn0 vc0, .slice vy0 vm0 vd0] 62)).cell? ⟨wr.heap.size, 0, none⟩ = some (.int .i64 j0) := by simp [go_sem]
      have p1 : ((wr.alloc (.cells #[.int .i64 j0, .bool s0, .slice x0 n0 c0, .slice y0 m0 d0] 62)).alloc (.cells #[.int .i64 vj0, .bool vs0, .slice vx0 vn0 vc0, .slice vy0 vm0 vd0] 62)).cell? ⟨wr.heap.size, 1, none⟩ = some (.bool s0) := by simp [go_sem]
      have p2 : ((wr.alloc (.cells #[.int .i64 j0, .bool s0, .slice x0 n0 c0, .slice y0 m0 d0] 62)).alloc (.cells #[.int .i64 vj0, .bool vs0, .slice vx0 vn0 vc0, .slice vy0 vm0 vd0] 62)).cell? ⟨wr.heap.size, 2, none⟩ = some (.slice x0 n0 c0) := by simp [go_sem]
      have p3 : ((wr.alloc (.cells #[.int .i64 j0, .bool s0, .slice x0 n0 c0, .slice y0 m0 d0] 62)).alloc (.cells #[.int .i64 vj0, .bool vs0, .slice vx0 vn0 vc0, .slice vy0 vm0 vd0] 62)).cell? ⟨wr.heap.size, 3, none⟩ = some (.slice y0 m0 d0) := by simp [go_sem]
      have r0 : ((wr.alloc (.cells #[.int .i64 j0, .bool s0, .slice x0 n0 c0, .slice y0 m0 d0] 62)).alloc (.cells #[.int .i64 vj0, .bool vs0, .slice vx0 vn0 vc0, .slice vy0 vm0 vd0] 62)).cell? ⟨wr.heap.size + 1, 0, none⟩ = some (.int .i64 vj0) := by simp [go_sem]
      have r1 : ((wr.alloc (.cells #[.int .i64 j0, .bool s0, .slice x0 n0 c0, .slice y0 m0 d0] 62)).alloc (.cells #[.int .i64 vj0, .bool vs0, .slice vx0 vn0 vc0, .slice vy0 vm0 vd0] 62)).cell? ⟨wr.heap.size + 1, 1, none⟩ = some (.bool vs0) := by simp [go_sem]
      have r2 : ((wr.alloc (.cells #[.int .i64 j0, .bool s0, .slice x0 n0 c0, .slice y0 m0 d0] 62)).alloc (.cells #[.int .i64 vj0, .bool vs0, .slice vx0 vn0 vc0, .slice vy0 vm0 vd0] 62)).cell? ⟨wr.heap.size + 1, 2, none⟩ = some (.slice vx0 vn0 vc0) := by simp [go_sem]
      have r3 : ((wr.alloc (.cells #[.int .i64 j0, .bool s0, .slice x0 n0 c0, .slice y0 m0 d0] 62)).alloc (.cells #[.int .i64 vj0, .bool vs0, .slice vx0 vn0 vc0, .slice vy0 vm0 vd0] 62)).cell? ⟨wr.heap.size + 1, 3, none⟩ = some (.slice vy0 vm0 vd0) := by simp [go_sem]
      have HB6 := hid (below_alloc hb1 (.cells #[.int .i64 vj0, .bool vs0, .slice vx0 vn0 vc0, .slice vy0 vm0 vd0] 62))
      have HT := hid hT; have HR := hid hr2
      have i1' : ((i : Nat) : Int) < ((k : Nat) : Int) := by omega
      clear hT hr2 hr hCi hCi2 ht1 hc hc2 hn hn2 hb1
      go_upto_region 7 with fail
      clear q0 g0' q1 g1' q2 g2' q3 g3'
      generalize ((wr.alloc (.cells #[.int .i64 j0, .bool s0, .slice x0 n0 c0, .slice y0 m0 d0] 62)).alloc (.cells #[.int .i64 vj0, .bool vs0, .slice vx0 vn0 vc0, .slice vy0 vm0 vd0] 62)) = w6 at *
      go_wp2_with fail
      refine (CE.out _ HB6.out).mono ?_
      rintro e w7 ⟨rfl, hb7⟩
      have HB7 := hid (HB.out.trans ((HB6.out.trans (hb7.mono HB6.out.size)).mono HB.out.size))
      clear hb7 HB6 CE p0 r0 p1 r1 p2 r2 p3 r3
      cases t1
      · go_wp2
        go_ret
        refine ⟨?_, HB7.out⟩
        rw [HT.out]; rfl
      · go_wp2
        go_roundw
        case rel =>
          refine ⟨i + 1, by omega, by go_num, HB7.out, ?_⟩
          show _ = _
          rw [HT.out, HR.out]; rfl
        case measure => simp [intOf]; omega
    · have e1 : i = k := by omega
      have HE : Hid (eqfB sxB k k X Y = true) := by show _ = _; rw [HI.out, e1, Nat.sub_self]; rfl
      have i2 : ¬ (((i : Nat) : Int) < ((k : Nat) : Int)) := by omega
      clear e1 HI
      go_wp2
      go_ret
      refine ⟨?_, HB.out⟩
      rw [HE.out]; rfl
set_option maxRecDepth 100000 in
set_option maxHeartbeats 4000000 in
theorem equalCs_c {w : World} {ao bo : Option Addr} {k l cap cap' : Nat} {X Y : Nat → Lc} (hx : Cls w ao k X) (hy : Cls w bo l Y) (hk : k ≤ 1048576) (hl : l ≤ 1048576) :
    Calls Tryz.prog 60 #[.slice ao k cap, .slice bo l cap', .func (.func 61) #[] #[]] w fun e w' => e = .returned (.bool (eqfB scB k l X Y)) ∧ Below w.heap.size w w' := by
  have HX := hid hx; have HY := hid hy
  clear hx hy
  by_cases hkl : k = l
  case neg =>
    have HE := hid (show eqfB scB k l X Y = false from by simp [eqfB, hkl])
    have e1 : ((k : Int) != (l : Int)) = true := by simp; omega
    clear hkl
    go_enter Tryz.func60, Tryz.ntmps60
    go_wp2
    go_ret
    refine ⟨?_, Below.refl _ _⟩
    rw [HE.out]; rfl
  subst hkl
  have HE := hid (show eqfB scB k k X Y = eqf scB X Y k 0 from by simp [eqfB])
  have e1 : ((k : Int) != (k : Int)) = false := by simp
  go_enter Tryz.func60, Tryz.ntmps60
  go_wp2_with fail
  go_loopw [17] (fun t wr => ∃ (i : Nat), i ≤ k ∧ t = .int .i64 i ∧ Hid (Below w.heap.size w wr) ∧ Hid (eqfB scB k k X Y = eqf scB X Y (k - i) i)) (fun t _ => k - (intOf t).toNat)
  case atStart => exact ⟨0, by omega, rfl, Below.refl _ _, HE.out⟩
  case round =>
    obtain ⟨i, hi, rfl, HB, HI⟩ := hrel
    by_cases hlt : i < k
    · obtain ⟨b, o, rfl, hc, hn⟩ := HX.out i hlt
      obtain ⟨b2, o2, rfl, hc2, hn2⟩ := HY.out i hlt
      replace hc := hc.below HB.out; replace hc2 := hc2.below HB.out; replace hn := hn.below HB.out; replace hn2 := hn2.below HB.out
      obtain ⟨r, hr⟩ : ∃ r, k - i = r + 1 := ⟨k - i - 1, by omega⟩
      obtain ⟨t1, ht1⟩ : ∃ t, scB (X i) (Y i) = t := ⟨_, rfl⟩
      have hT : eqfB scB k k X Y = (t1 && eqf scB X Y r (i + 1)) := by rw [HI.out, hr, ← ht1]; rfl
      have hr2 : k - (i + 1) = r := by omega
      have CE := hid (fun w' (hw : Below wr.heap.size wr w') => sameCol_c (w := w') (hn.below hw) (hn2.below hw))
      rw [ht1] at CE
      obtain ⟨⟨z, ⟨s0, x0, n0, c0, f0, y0, m0, d0, g0⟩, ⟨i1, ⟨s1, x1, n1, c1, f1, y1, m1, d1, g1⟩⟩, ⟨i2, ⟨s2, x2, n2, c2, f2, y2, m2, d2, g2⟩⟩⟩, hCi⟩ : ∃ t, X i = t := ⟨_, rfl⟩
      obtain ⟨⟨vz, ⟨vs0, vx0, vn0, vc0, vf0, vy0, vm0, vd0, vg0⟩, ⟨vi1, ⟨vs1, vx1, vn1, vc1, vf1, vy1, vm1, vd1, vg1⟩⟩, ⟨vi2, ⟨vs2, vx2, vn2, vc2, vf2, vy2, vm2, vd2, vg2⟩⟩⟩, hCi2⟩ : ∃ t, Y i = t := ⟨_, rfl⟩
      rw [hCi] at hc CE
      rw [hCi2] at hc2 CE
      replace CE : Hid (∀ w' (hw : Below wr.heap.size wr w'), Calls Tryz.prog 61 #[.agg #[.string z, .bool s0, .slice x0 n0 c0, .slice y0 m0 d0, .int .i64 i1, .bool s1, .slice x1 n1 c1, .slice y1 m1 d1, .int .i64 i2, .bool s2, .slice x2 n2 c2, .slice y2 m2 d2], .agg #[.string vz, .bool vs0, .slice vx0 vn0 vc0, .slice vy0 vm0 vd0, .int .i64 vi1, .bool vs1, .slice vx1 vn1 vc1, .slice vy1 vm1 vd1, .int .i64 vi2, .bool vs2, .slice vx2 vn2 vc2, .slice vy2 vm2 vd2]] w' fun e w2 => e = .returned (.bool t1) ∧ Below w'.heap.size w' w2) := CE
      have hb1 := below_alloc (Below.refl wr.heap.size wr) (.cells #[.string z, .bool s0, .slice x0 n0 c0, .slice y0 m0 d0, .int .i64 i1, .bool s1, .slice x1 n1 c1, .slice y1 m1 d1, .int .i64 i2, .bool s2, .slice x2 n2 c2, .slice y2 m2 d2] 77)
      have q0 : wr.cell? ⟨b, o + i * 12, none⟩ = some (.string z) := hc 0 _ rfl
      have q1 : wr.cell? ⟨b, o + i * 12 + 1, none⟩ = some (.bool s0) := hc 1 _ rfl
      have q2 : wr.cell? ⟨b, o + i * 12 + 2, none⟩ = some (.slice x0 n0 c0) := hc 2 _ rfl
      have q3 : wr.cell? ⟨b, o + i * 12 + 3, none⟩ = some (.slice y0 m0 d0) := hc 3 _ rfl
      have q4 : wr.cell? ⟨b, o + i * 12 + 4, none⟩ = some (.int .i64 i1) := hc 4 _ rfl
      have q5 : wr.cell? ⟨b, o + i * 12 + 5, none⟩ = some (.bool s1) := hc 5 _ rfl
      have q6 : wr.cell? ⟨b, o + i * 12 + 6, none⟩ = some (.slice x1 n1 c1) := hc 6 _ rfl
      have q7 : wr.cell? ⟨b, o + i * 12 + 7, none⟩ = some (.slice y1 m1 d1) := hc 7 _ rfl
      have q8 : wr.cell? ⟨b, o + i * 12 + 8, none⟩ = some (.int .i64 i2) := hc 8 _ rfl
      have q9 : wr.cell? ⟨b, o + i * 12 + 9, none⟩ = some (.bool s2) := hc 9 _ rfl
      have q10 : wr.cell? ⟨b, o + i * 12 + 10, none⟩ = some (.slice x2 n2 c2) := hc 10 _ rfl
      have q11 : wr.cell? ⟨b, o + i * 12 + 11, none⟩ = some (.slice y2 m2 d2) := hc 11 _ rfl
      have g0' : (wr.alloc (.cells #[.string z, .bool s0, .slice x0 n0 c0, .slice y0 m0 d0, .int .i64 i1, .bool s1, .slice x1 n1 c1, .slice y1 m1 d1, .int .i64 i2, .bool s2, .slice x2 n2 c2, .slice y2 m2 d2] 77)).cell? ⟨b2, o2 + i * 12, none⟩ = some (.string vz) := kCb hb1 (hc2 0 _ rfl)
      have g1' : (wr.alloc (.cells #[.string z, .bool s0, .slice x0 n0 c0, .slice y0 m0 d0, .int .i64 i1, .bool s1, .slice x1 n1 c1, .slice y1 m1 d1, .int .i64 i2, .bool s2, .slice x2 n2 c2, .slice y2 m2 d2] 77)).cell? ⟨b2, o2 + i * 12 + 1, none⟩ = some (.bool vs0) := kCb hb1 (hc2 1 _ rfl)
      have g2' : (wr.alloc (.cells #[.string z, .bool s0, .slice x0 n0 c0, .slice y0 m0 d0, .int .i64 i1, .bool s1, .slice x1 n1 c1, .slice y1 m1 d1, .int .i64 i2, .bool s2, .slice x2 n2 c2, .slice y2 m2 d2] 77)).cell? ⟨b2, o2 + i * 12 + 2, none⟩ = some (.slice vx0 vn0 vc0) := kCb hb1 (hc2 2 _ rfl)
      have g3' : (wr.alloc (.cells #[.string z, .bool s0, .slice x0 n0 c0, .slice y0 m0 d0, .int .i64 i1, .bool s1, .slice x1 n1 c1, .slice y1 m1 d1, .int .i64 i2, .bool s2, .slice x2 n2 c2, .slice y2 m2 d2] 77)).cell? ⟨b2, o2 + i * 12 + 3, none⟩ = some (.slice vy0 vm0 vd0) := kCb hb1 (hc2 3 _ rfl)
      have g4' : (wr.alloc (.cells #[.string z, .bool s0, .slice x0 n0 c0, .slice y0 m0 d0, .int .i64 i1, .bool s1, .slice x1 n1 c1, .slice y1 m1 d1, .int .i64 i2, .bool s2, .slice x2 n2 c2, .slice y2 m2 d2] 77)).cell? ⟨b2, o2 + i * 12 + 4, none⟩ = some (.int .i64 vi1) := kCb hb1 (hc2 4 _ rfl)
      have g5' : (wr.alloc (.cells #[.string z, .bool s0, .slice x0 n0 c0, .slice y0 m0 d0, .int .i64 i1, .bool s1, .slice x1 n1 c1, .slice y1 m1 d1, .int .i64 i2, .bool s2, .slice x2 n2 c2, .slice y2 m2 d2] 77)).cell? ⟨b2, o2 + i * 12 + 5, none⟩ = some (.bool vs1) := kCb hb1 (hc2 5 _ rfl)
      have g6' : (wr.alloc (.cells #[.string z, .bool s0, .slice x0 n0 c0, .slice y0 m0 d0, .int .i64 i1, .bool s1, .slice x1 n1 c1, .slice y1 m1 d1, .int .i64 i2, .bool s2, .slice x2 n2 c2, .slice y2 m2 d2] 77)).cell? ⟨b2, o2 + i * 12 + 6, none⟩ = some (.slice vx1 vn1 vc1) := kCb hb1 (hc2 6 _ rfl)
      have g7' : (wr.alloc (.cells #[.string z, .bool s0, .slice x0 n0 c0, .slice y0 m0 d0, .int .i64 i1, .bool s1, .slice x1 n1 c1, .slice y1 m1 d1, .int .i64 i2, .bool s2, .slice x2 n2 c2, .slice y2 m2 d2] 77)).cell? ⟨b2, o2 + i * 12 + 7, none⟩ = some (.slice vy1 vm1 vd1) := kCb hb1 (hc2 7 _ rfl)
      have g8' : (wr.alloc (.cells #[.string z, .bool s0, .slice x0 n0 c0, .slice y0 m0 d0, .int .i64 i1, .bool s1, .slice x1 n1 c1, .slice y1 m1 d1, .int .i64 i2, .bool s2, .slice x2 n2 c2, .slice y2 m2 d2] 77)).cell? ⟨b2, o2 + i * 12 + 8, none⟩ = some (.int .i64 vi2) := kCb hb1 (hc2 8 _ rfl)
      have g9' : (wr.alloc (.cells #[.string z, .bool s0, .slice x0 n0 c0, .slice y0 m0 d0, .int .i64 i1, .bool s1, .slice x1 n1 c1, .slice y1 m1 d1, .int .i64 i2, .bool s2, .slice x2 n2 c2, .slice y2 m2 d2] 77)).cell? ⟨b2, o2 + i * 12 + 9, none⟩ = some (.bool vs2) := kCb hb1 (hc2 9 _ rfl)
      have g10' : (wr.alloc (.cells #[.string z, .bool s0, .slice x0 n0 c0, .slice y0 m0 d0, .int .i64 i1, .bool s1, .slice x1 n1 c1, .slice y1 m1 d1, .int .i64 i2, .bool s2, .slice x2 n2 c2, .slice y2 m2 d2] 77)).cell? ⟨b2, o2 + i * 12 + 10, none⟩ = some (.slice vx2 vn2 vc2) := kCb hb1 (hc2 10 _ rfl)
      have g11' : (wr.alloc (.cells #[.string z, .bool s0, .slice x0 n0 c0, .slice y0 m0 d0, .int .i64 i1, .bool s1, .slice x1 n1 c1, .slice y1 m1 d1, .int .i64 i2, .bool s2, .slice x2 n2 c2, .slice y2 m2 d2] 77)).cell? ⟨b2, o2 + i * 12 + 11, none⟩ = some (.slice vy2 vm2 vd2) := kCb hb1 (hc2 11 _ rfl)
      have p0 : ((wr.alloc (.cells #[.string z, .bool s0, .slice x0 n0 c0, .slice y0 m0 d0, .int .i64 i1, .bool s1, .slice x1 n1 c1, .slice y1 m1 d1, .int .i64 i2, .bool s2, .slice x2 n2 c2, .slice y2 m2 d2] 77)).alloc (.cells #[.string vz, .bool vs0, .slice vx0 vn0 vc0, .slice vy0 vm0 vd0, .int .i64 vi1, .bool vs1, .slice vx1 vn1 vc1, .slice vy1 vm1 vd1, .int .i64 vi2, .bool vs2, .slice vx2 vn2 vc2, .slice vy2 vm2 vd2] 77)).cell? ⟨wr.heap.size, 0, none⟩ = some (.string z) := by simp [go_sem]
      have p1 : ((wr.alloc (.cells #[.string z, .bool s0, .slice x0 n0 c0, .slice y0 m0 d0, .int .i64 i1, .bool s1, .slice x1 n1 c1, .slice y1 m1 d1, .int .i64 i2, .bool s2, .slice x2 n2 c2, .slice y2 m2 d2] 77)).alloc (.cells #[.string vz, .bool vs0, .slice vx0 vn0 vc0, .slice vy0 vm0 vd0, .int .i64 vi1, .bool vs1, .slice vx1 vn1 vc1, .slice vy1 vm1 vd1, .int .i64 vi2, .bool vs2, .slice vx2 vn2 vc2, .slice vy2 vm2 vd2] 77)).cell? ⟨wr.heap.size, 1, none⟩ = some (.bool s0) := by simp [go_sem]
      have p2 : ((wr.alloc (.cells #[.string z, .bool s0, .slice x0 n0 c0, .slice y0 m0 d0, .int .i64 i1, .bool s1, .slice x1 n1 c1, .slice y1 m1 d1, .int .i64 i2, .bool s2, .slice x2 n2 c2, .slice y2 m2 d2] 77)).alloc (.cells #[.string vz, .bool vs0, .slice vx0 vn0 vc0, .slice vy0 vm0 vd0, .int .i64 vi1, .bool vs1, .slice vx1 vn1 vc1, .slice vy1 vm1 vd1, .int .i64 vi2, .bool vs2, .slice vx2 vn2 vc2, .slice vy2 vm2 vd2] 77)).cell? ⟨wr.heap.size, 2, none⟩ = some (.slice x0 n0 c0) := by simp [go_sem]
      have p3 : ((wr.alloc (.cells #[.string z, .bool s0, .slice x0 n0 c0, .slice y0 m0 d0, .int .i64 i1, .bool s1, .slice x1 n1 c1, .slice y1 m1 d1, .int .i64 i2, .bool s2, .slice x2 n2 c2, .slice y2 m2 d2] 77)).alloc (.cells #[.string vz, .bool vs0, .slice vx0 vn0 vc0, .slice vy0 vm0 vd0, .int .i64 vi1, .bool vs1, .slice vx1 vn1 vc1, .slice vy1 vm1 vd1, .int .i64 vi2, .bool vs2, .slice vx2 vn2 vc2, .slice vy2 vm2 vd2] 77)).cell? ⟨wr.heap.size, 3, none⟩ = some (.slice y0 m0 d0) := by simp [go_sem]
      have p4 : ((wr.alloc (.cells #[.string z, .bool s0, .slice x0 n0 c0, .slice y0 m0 d0, .int .i64 i1, .bool s1, .slice x1 n1 c1, .slice y1 m1 d1, .int .i64 i2, .bool s2, .slice x2 n2 c2, .slice y2 m2 d2] 77)).alloc (.cells #[.string vz, .bool vs0, .slice vx0 vn0 vc0, .slice vy0 vm0 vd0, .int .i64 vi1, .bool vs1, .slice vx1 vn1 vc1, .slice vy1 vm1 vd1, .int .i64 vi2, .bool vs2, .slice vx2 vn2 vc2, .slice vy2 vm2 vd2] 77)).cell? ⟨wr.heap.size, 4, none⟩ = some (.int .i64 i1) := by simp [go_sem]
      have p5 : ((wr.alloc (.cells #[.string z, .bool s0, .slice x0 n0 c0, .slice y0 m0 d0, .int .i64 i1, .bool s1, .slice x1 n1 c1, .slice y1 m1 d1, .int .i64 i2, .bool s2, .slice x2 n2 c2, .slice y2 m2 d2] 77)).alloc (.cells #[.string vz, .bool vs0, .slice vx0 vn0 vc0, .slice vy0 vm0 vd0, .int .i64 vi1, .bool vs1, .slice vx1 vn1 vc1, .slice vy1 vm1 vd1, .int .i64 vi2, .bool vs2, .slice vx2 vn2 vc2, .slice vy2 vm2 vd2] 77)).cell? ⟨wr.heap.size, 5, none⟩ = some (.bool s1) := by simp [go_sem]
      have p6 : ((wr.alloc (.cells #[.string z, .bool s0, .slice x0 n0 c0, .slice y0 m0 d0, .int .i64 i1, .bool s1, .slice x1 n1 c1, .slice y1 m1 d1, .int .i64 i2, .bool s2, .slice x2 n2 c2, .slice y2 m2 d2] 77)).alloc (.cells #[.string vz, .bool vs0, .slice vx0 vn0 vc0, .slice vy0 vm0 vd0, .int .i64 vi1, .bool vs1, .slice vx1 vn1 vc1, .slice vy1 vm1 vd1, .int .i64 vi2, .bool vs2, .slice vx2 vn2 vc2, .slice vy2 vm2 vd2] 77)).cell? ⟨wr.heap.size, 6, none⟩ = some (.slice x1 n1 c1) := by simp [go_sem]
      have p7 : ((wr.alloc (.cells #[.string z, .bool s0, .slice x0 n0 c0, .slice y0 m0 d0, .int .i64 i1, .bool s1, .slice x1 n1 c1, .slice y1 m1 d1, .int .i64 i2, .bool s2, .slice x2 n2 c2, .slice y2 m2 d2] 77)).alloc (.cells #[.string vz, .bool vs0, .slice vx0 vn0 vc0, .slice vy0 vm0 vd0, .int .i64 vi1, .bool vs1, .slice vx1 vn1 vc1, .slice vy1 vm1 vd1, .int .i64 vi2, .bool vs2, .slice vx2 vn2 vc2, .slice vy2 vm2 vd2] 77)).cell? ⟨wr.heap.size, 7, none⟩ = some (.slice y1 m1 d1) := by simp [go_sem]
      have p8 : ((wr.alloc (.cells #[.string z, .bool s0, .slice x0 n0 c0, .slice y0 m0 d0, .int .i64 i1, .bool s1, .slice x1 n1 c1, .slice y1 m1 d1, .int .i64 i2, .bool s2, .slice x2 n2 c2, .slice y2 m2 d2] 77)).alloc (.cells #[.string vz, .bool vs0, .slice vx0 vn0 vc0, .slice vy0 vm0 vd0, .int .i64 vi1, .bool vs1, .slice vx1 vn1 vc1, .slice vy1 vm1 vd1, .int .i64 vi2, .bool vs2, .slice vx2 vn2 vc2, .slice vy2 vm2 vd2] 77)).cell? ⟨wr.heap.size, 8, none⟩ = some (.int .i64 i2) := by simp [go_sem]
      have p9 : ((wr.alloc (.cells #[.string z, .bool s0, .slice x0 n0 c0, .slice y0 m0 d0, .int .i64 i1, .bool s1, .slice x1 n1 c1, .slice y1 m1 d1, .int .i64 i2, .bool s2, .slice x2 n2 c2, .slice y2 m2 d2] 77)).alloc (.cells #[.string vz, .bool vs0, .slice vx0 vn0 vc0, .slice vy0 vm0 vd0, .int .i64 vi1, .bool vs1, .slice vx1 vn1 vc1, .slice vy1 vm1 vd1, .int .i64 vi2, .bool vs2, .slice vx2 vn2 vc2, .slice vy2 vm2 vd2] 77)).cell? ⟨wr.heap.size, 9, none⟩ = some (.bool s2) := by simp [go_sem]
      have p10 : ((wr.alloc (.cells #[.string z, .bool s0, .slice x0 n0 c0, .slice y0 m0 d0, .int .i64 i1, .bool s1, .slice x1 n1 c1, .slice y1 m1 d1, .int .i64 i2, .bool s2, .slice x2 n2 c2, .slice y2 m2 d2] 77)).alloc (.cells #[.string vz, .bool vs0, .slice vx0 vn0 vc0, .slice vy0 vm0 vd0, .int .i64 vi1, .bool vs1, .slice vx1 vn1 vc1, .slice vy1 vm1 vd1, .int .i64 vi2, .bool vs2, .slice vx2 vn2 vc2, .slice vy2 vm2 vd2] 77)).cell? ⟨wr.heap.size, 10, none⟩ = some (.slice x2 n2 c2) := by simp [go_sem]
      have p11 : ((wr.alloc (.cells #[.string z, .bool s0, .slice x0 n0 c0, .slice y0 m0 d0, .int .i64 i1, .bool s1, .slice x1 n1 c1, .slice y1 m1 d1, .int .i64 i2, .bool s2, .slice x2 n2 c2, .slice y2 m2 d2] 77)).alloc (.cells #[.string vz, .bool vs0, .slice vx0 vn0 vc0, .slice vy0 vm0 vd0, .int .i64 vi1, .bool vs1, .slice vx1 vn1 vc1, .slice vy1 vm1 vd1, .int .i64 vi2, .bool vs2, .slice vx2 vn2 vc2, .slice vy2 vm2 vd2] 77)).cell? ⟨wr.heap.size, 11, none⟩ = some (.slice y2 m2 d2) := by simp [go_sem]
      have r0 : ((wr.alloc (.cells #[.string z, .bool s0, .slice x0 n0 c0, .slice y0 m0 d0, .int .i64 i1, .bool s1, .slice x1 n1 c1, .slice y1 m1 d1, .int .i64 i2, .bool s2, .slice x2 n2 c2, .slice y2 m2 d2] 77)).alloc (.cells #[.string vz, .bool vs0, .slice vx0 vn0 vc0, .slice vy0 vm0 vd0, .int .i64 vi1, .bool vs1, .slice vx1 vn1 vc1, .slice vy1 vm1 vd1, .int .i64 vi2, .bool vs2, .slice vx2 vn2 vc2, .slice vy2 vm2 vd2] 77)).cell? ⟨wr.heap.size + 1, 0, none⟩ = some (.string vz) := by simp [go_sem]
      have r1 : ((wr.alloc (.cells #[.string z, .bool s0, .slice x0 n0 c0, .slice y0 m0 d0, .int .i64 i1, .bool s1, .slice x1 n1 c1, .slice y1 m1 d1, .int .i64 i2, .bool s2, .slice x2 n2 c2, .slice y2 m2 d2] 77)).alloc (.cells #[.string vz, .bool vs0, .slice vx0 vn0 vc0, .slice vy0 vm0 vd0, .int .i64 vi1, .bool vs1, .slice vx1 vn1 vc1, .slice vy1 vm1 vd1, .int .i64 vi2, .bool vs2, .slice vx2 vn2 vc2, .slice vy2 vm2 vd2] 77)).cell? ⟨wr.heap.size + 1, 1, none⟩ = some (.bool vs0) := by simp [go_sem]
      have r2 : ((wr.alloc (.cells #[.string z, .bool s0, .slice x0 n0 c0, .slice y0 m0 d0, .int .i64 i1, .bool s1, .slice x1 n1 c1, .slice y1 m1 d1, .int .i64 i2, .bool s2, .slice x2 n2 c2, .slice y2 m2 d2] 77)).alloc (.cells #[.string vz, .bool vs0, .slice vx0 vn0 vc0, .slice vy0 vm0 vd0, .int .i64 vi1, .bool vs1, .slice vx1 vn1 vc1, .slice vy1 vm1 vd1, .int .i64 vi2, .bool vs2, .slice vx2 vn2 vc2, .slice vy2 vm2 vd2] 77)).cell? ⟨wr.heap.size + 1, 2, none⟩ = some (.slice vx0 vn0 vc0) := by simp [go_sem]
      have r3 : ((wr.alloc (.cells #[.string z, .bool s0, .slice x0 n0 c0, .slice y0 m0 d0, .int .i64 i1, .bool s1, .slice x1 n1 c1, .slice y1 m1 d1, .int .i64 i2, .bool s2, .slice x2 n2 c2, .slice y2 m2 d2] 77)).alloc (.cells #[.string vz, .bool vs0, .slice vx0 vn0 vc0, .slice vy0 vm0 vd0, .int .i64 vi1, .bool vs1, .slice vx1 vn1 vc1, .slice vy1 vm1 vd1, .int .i64 vi2, .bool vs2, .slice vx2 vn2 vc2, .slice vy2 vm2 vd2] 77)).cell? ⟨wr.heap.size + 1, 3, none⟩ = some (.slice vy0 vm0 vd0) := by simp [go_sem]
      have r4 : ((wr.alloc (.cells #[.string z, .bool s0, .slice x0 n0 c0, .slice y0 m0 d0, .int .i64 i1, .bool s1, .slice x1 n1 c1, .slice y1 m1 d1, .int .i64 i2, .bool s2, .slice x2 n2 c2, .slice y2 m2 d2] 77)).alloc (.cells #[.string vz, .bool vs0, .slice vx0 vn0 vc0, .slice vy0 vm0 vd0, .int .i64 vi1, .bool vs1, .slice vx1 vn1 vc1, .slice vy1 vm1 vd1, .int .i64 vi2, .bool vs2, .slice vx2 vn2 vc2, .slice vy2 vm2 vd2] 77)).cell? ⟨wr.heap.size + 1, 4, none⟩ = some (.int .i64 vi1) := by simp [go_sem]
      have r5 : ((wr.alloc (.cells #[.string z, .bool s0, .slice x0 n0 c0, .slice y0 m0 d0, .int .i64 i1, .bool s1, .slice x1 n1 c1, .slice y1 m1 d1, .int .i64 i2, .bool s2, .slice x2 n2 c2, .slice y2 m2 d2] 77)).alloc (.cells #[.string vz, .bool vs0, .slice vx0 vn0 vc0, .slice vy0 vm0 vd0, .int .i64 vi1, .bool vs1, .slice vx1 vn1 vc1, .slice vy1 vm1 vd1, .int .i64 vi2, .bool vs2, .slice vx2 vn2 vc2, .slice vy2 vm2 vd2] 77)).cell? ⟨wr.heap.size + 1, 5, none⟩ = some (.bool vs1) := by simp [go_sem]
      have r6 : ((wr.alloc (.cells #[.string z, .bool s0, .slice x0 n0 c0, .slice y0 m0 d0, .int .i64 i1, .bool s1, .slice x1 n1 c1, .slice y1 m1 d1, .int .i64 i2, .bool s2, .slice x2 n2 c2, .slice y2 m2 d2] 77)).alloc (.cells #[.string vz, .bool vs0, .slice vx0 vn0 vc0, .slice vy0 vm0 vd0, .int .i64 vi1, .bool vs1, .slice vx1 vn1 vc1, .slice vy1 vm1 vd1, .int .i64 vi2, .bool vs2, .slice vx2 vn2 vc2, .slice vy2 vm2 vd2] 77)).cell? ⟨wr.heap.size + 1, 6, none⟩ = some (.slice vx1 vn1 vc1) := by simp [go_sem]
      have r7 : ((wr.alloc (.cells #[.string z, .bool s0, .slice x0 n0 c0, .slice y0 m0 d0, .int .i64 i1, .bool s1, .slice x1 n1 c1, .slice y1 m1 d1, .int .i64 i2, .bool s2, .slice x2 n2 c2, .slice y2 m2 d2] 77)).alloc (.cells #[.string vz, .bool vs0, .slice vx0 vn0 vc0, .slice vy0 vm0 vd0, .int .i64 vi1, .bool vs1, .slice vx1 vn1 vc1, .slice vy1 vm1 vd1, .int .i64 vi2, .bool vs2, .slice vx2 vn2 vc2, .slice vy2 vm2 vd2] 77)).cell? ⟨wr.heap.size + 1, 7, none⟩ = some (.slice vy1 vm1 vd1) := by simp [go_sem]
      have r8 : ((wr.alloc (.cells #[.string z, .bool s0, .slice x0 n0 c0, .slice y0 m0 d0, .int .i64 i1, .bool s1, .slice x1 n1 c1, .slice y1 m1 d1, .int .i64 i2, .bool s2, .slice x2 n2 c2, .slice y2 m2 d2] 77)).alloc (.cells #[.string vz, .bool vs0, .slice vx0 vn0 vc0, .slice vy0 vm0 vd0, .int .i64 vi1, .bool vs1, .slice vx1 vn1 vc1, .slice vy1 vm1 vd1, .int .i64 vi2, .bool vs2, .slice vx2 vn2 vc2, .slice vy2 vm2 vd2] 77)).cell? ⟨wr.heap.size + 1, 8, none⟩ = some (.int .i64 vi2) := by simp [go_sem]
      have r9 : ((wr.alloc (.cells #[.string z, .bool s0, .slice x0 n0 c0, .slice y0 m0 d0, .int .i64 i1, .bool s1, .slice x1 n1 c1, .slice y1 m1 d1, .int .i64 i2, .bool s2, .slice x2 n2 c2, .slice y2 m2 d2] 77)).alloc (.cells #[.string vz, .bool vs0, .slice vx0 vn0 vc0, .slice vy0 vm0 vd0, .int .i64 vi1, .bool vs1, .slice vx1 vn1 vc1, .slice vy1 vm1 vd1, .int .i64 vi2, .bool vs2, .slice vx2 vn2 vc2, .slice vy2 vm2 vd2] 77)).cell? ⟨wr.heap.size + 1, 9, none⟩ = some (.bool vs2) := by simp [go_sem]
      have r10 : ((wr.alloc (.cells #[.string z, .bool s0, .slice x0 n0 c0, .slice y0 m0 d0, .int .i64 i1, .bool s1, .slice x1 n1 c1, .slice y1 m1 d1, .int .i64 i2, .bool s2, .slice x2 n2 c2, .slice y2 m2 d2] 77)).alloc (.cells #[.string vz, .bool vs0, .slice vx0 vn0 vc0, .slice vy0 vm0 vd0, .int .i64 vi1, .bool vs1, .slice vx1 vn1 vc1, .slice vy1 vm1 vd1, .int .i64 vi2, .bool vs2, .slice vx2 vn2 vc2, .slice vy2 vm2 vd2] 77)).cell? ⟨wr.heap.size + 1, 10, none⟩ = some (.slice vx2 vn2 vc2) := by simp [go_sem]
      have r11 : ((wr.alloc (.cells #[.string z, .bool s0, .slice x0 n0 c0, .slice y0 m0 d0, .int .i64 i1, .bool s1, .slice x1 n1 c1, .slice y1 m1 d1, .int .i64 i2, .bool s2, .slice x2 n2 c2, .slice y2 m2 d2] 77)).alloc (.cells #[.string vz, .bool vs0, .slice vx0 vn0 vc0, .slice vy0 vm0 vd0, .int .i64 vi1, .bool vs1, .slice vx1 vn1 vc1, .slice vy1 vm1 vd1, .int .i64 vi2, .bool vs2, .slice vx2 vn2 vc2, .slice vy2 vm2 vd2] 77)).cell? ⟨wr.heap.size + 1, 11, none⟩ = some (.slice vy2 vm2 vd2) := by simp [go_sem]
      have HB6 := hid (below_alloc hb1 (.cells #[.string vz, .bool vs0, .slice vx0 vn0 vc0, .slice vy0 vm0 vd0, .int .i64 vi1, .bool vs1, .slice vx1 vn1 vc1, .slice vy1 vm1 vd1, .int .i64 vi2, .bool vs2, .slice vx2 vn2 vc2, .slice vy2 vm2 vd2] 77))
      have HT := hid hT; have HR := hid hr2
      have i1' : ((i : Nat) : Int) < ((k : Nat) : Int) := by omega
      clear hT hr2 hr hCi hCi2 ht1 hc hc2 hn hn2 hb1
      go_upto_region 7 with fail
      clear q0 g0' q1 g1' q2 g2' q3 g3' q4 g4' q5 g5' q6 g6' q7 g7' q8 g8' q9 g9' q10 g10' q11 g11'
      generalize ((wr.alloc (.cells #[.string z, .bool s0, .slice x0 n0 c0, .slice y0 m0 d0, .int .i64 i1, .bool s1, .slice x1 n1 c1, .slice y1 m1 d1, .int .i64 i2, .bool s2, .slice x2 n2 c2, .slice y2 m2 d2] 77)).alloc (.cells #[.string vz, .bool vs0, .slice vx0 vn0 vc0, .slice vy0 vm0 vd0, .int .i64 vi1, .bool vs1, .slice vx1 vn1 vc1, .slice vy1 vm1 vd1, .int .i64 vi2, .bool vs2, .slice vx2 vn2 vc2, .slice vy2 vm2 vd2] 77)) = w6 at *
      go_wp2_with fail
      refine (CE.out _ HB6.out).mono ?_
      rintro e w7 ⟨rfl, hb7⟩
      have HB7 := hid (HB.out.trans ((HB6.out.trans (hb7.mono HB6.out.size)).mono HB.out.size))
      clear hb7 HB6 CE p0 r0 p1 r1 p2 r2 p3 r3 p4 r4 p5 r5 p6 r6 p7 r7 p8 r8 p9 r9 p10 r10 p11 r11
      cases t1
      · go_wp2
        go_ret
        refine ⟨?_, HB7.out⟩
        rw [HT.out]; rfl
      · go_wp2
        go_roundw
        case rel =>
          refine ⟨i + 1, by omega, by go_num, HB7.out, ?_⟩
          show _ = _
          rw [HT.out, HR.out]; rfl
        case measure => simp [intOf]; omega
    · have e1 : i = k := by omega
      have HE : Hid (eqfB scB k k X Y = true) := by show _ = _; rw [HI.out, e1, Nat.sub_self]; rfl
      have i2 : ¬ (((i : Nat) : Int) < ((k : Nat) : Int)) := by omega
      clear e1 HI
      go_wp2
      go_ret
      refine ⟨?_, HB.out⟩
      rw [HE.out]; rfl
/-- Are two rows the same? -/
def srB (a b : Lr) : Bool := decide (a.nm = b.nm) && (sxB a.lo b.lo && (sxB a.hi b.hi && eqfB sxB a.tk b.tk (tex a.col a.T) (tex b.col b.T)))
def Lr.val (c : Lr) : Value := .agg c.vs.toArray
set_option maxRecDepth 100000 in
set_option maxHeartbeats 4000000 in
theorem sameRow_c {w : World} {a b : Lr} (ha : LrR w a) (hb : LrR w b) : Calls Tryz.prog 63 #[a.val, b.val] w fun r w' => r = .returned (.bool (srB a b)) ∧ Below w.heap.size w w' := by
  have C1 := hid (fun w' (hw : Below w.heap.size w w') => sameExt_c (w := w') (ha.lo.below hw) (hb.lo.below hw))
  have C2 := hid (fun w' (hw : Below w.heap.size w w') => sameExt_c (w := w') (ha.hi.below hw) (hb.hi.below hw))
  have C3 := hid (fun w' (hw : Below w.heap.size w w') => equalTs_c (w := w') (cap := a.tc) (cap' := b.tc) ((ha.tl.below hw).tex) ((hb.tl.below hw).tex) ha.tk hb.tk)
  obtain ⟨t1, ht1⟩ : ∃ t, sxB a.lo b.lo = t := ⟨_, rfl⟩
  obtain ⟨t2, ht2⟩ : ∃ t, sxB a.hi b.hi = t := ⟨_, rfl⟩
  obtain ⟨t3, ht3⟩ : ∃ t, eqfB sxB a.tk b.tk (tex a.col a.T) (tex b.col b.T) = t := ⟨_, rfl⟩
  obtain ⟨ans, hans⟩ : ∃ t, srB a b = t := ⟨_, rfl⟩
  have hA : ans = (decide (a.nm = b.nm) && (t1 && (t2 && t3))) := by rw [← hans, ← ht1, ← ht2, ← ht3]; rfl
  rw [ht1] at C1
  rw [ht2] at C2
  rw [ht3] at C3
  rw [hans]
  clear hans ht1 ht2 ht3 ha hb
  obtain ⟨z, ⟨i1, ⟨s1, x1, n1, c1, f1, y1, m1, d1, g1⟩⟩, ⟨i2, ⟨s2, x2, n2, c2, f2, y2, m2, d2, g2⟩⟩, ta, tk, tc, tcol, tt⟩ := a
  obtain ⟨vz, ⟨vi1, ⟨vs1, vx1, vn1, vc1, vf1, vy1, vm1, vd1, vg1⟩⟩, ⟨vi2, ⟨vs2, vx2, vn2, vc2, vf2, vy2, vm2, vd2, vg2⟩⟩, vta, vtk, vtc, vtcol, vtt⟩ := b
  have HA : Hid (ans = (decide (z = vz) && (t1 && (t2 && t3)))) := hA
  replace C1 : Hid (∀ w' (hw : Below w.heap.size w w'), Calls Tryz.prog 91 #[.agg #[.int .i64 i1, .bool s1, .slice x1 n1 c1, .slice y1 m1 d1], .agg #[.int .i64 vi1, .bool vs1, .slice vx1 vn1 vc1, .slice vy1 vm1 vd1]] w' fun e w2 => e = .returned (.bool t1) ∧ Below w'.heap.size w' w2) := C1
  replace C2 : Hid (∀ w' (hw : Below w.heap.size w w'), Calls Tryz.prog 91 #[.agg #[.int .i64 i2, .bool s2, .slice x2 n2 c2, .slice y2 m2 d2], .agg #[.int .i64 vi2, .bool vs2, .slice vx2 vn2 vc2, .slice vy2 vm2 vd2]] w' fun e w2 => e = .returned (.bool t2) ∧ Below w'.heap.size w' w2) := C2
  replace C3 : Hid (∀ w' (hw : Below w.heap.size w w'), Calls Tryz.prog 92 #[.slice ta tk tc, .slice vta vtk vtc, .func (.func 93) #[] #[]] w' fun e w2 => e = .returned (.bool t3) ∧ Below w'.heap.size w' w2) := C3
  clear hA
  show Calls Tryz.prog 63 #[.agg #[.string z, .int .i64 i1, .bool s1, .slice x1 n1 c1, .slice y1 m1 d1, .int .i64 i2, .bool s2, .slice x2 n2 c2, .slice y2 m2 d2, .slice ta tk tc], .agg #[.string vz, .int .i64 vi1, .bool vs1, .slice vx1 vn1 vc1, .slice vy1 vm1 vd1, .int .i64 vi2, .bool vs2, .slice vx2 vn2 vc2, .slice vy2 vm2 vd2, .slice vta vtk vtc]] w _
  have HB0 := hid (below_alloc (below_alloc (Below.refl w.heap.size w) (.cells #[.string z, .int .i64 i1, .bool s1, .slice x1 n1 c1, .slice y1 m1 d1, .int .i64 i2, .bool s2, .slice x2 n2 c2, .slice y2 m2 d2, .slice ta tk tc] 75)) (.cells #[.string vz, .int .i64 vi1, .bool vs1, .slice vx1 vn1 vc1, .slice vy1 vm1 vd1, .int .i64 vi2, .bool vs2, .slice vx2 vn2 vc2, .slice vy2 vm2 vd2, .slice vta vtk vtc] 75))
  by_cases hs : z = vz
  case neg =>
    have HS := hid (show decide (z = vz) = false from by simp [hs])
    have e1 := str_ne hs
    go_enter Tryz.func63, Tryz.ntmps63
    go_wp2
    go_ret
    refine ⟨?_, HB0.out⟩
    rw [HA.out, HS.out]; rfl
  subst hs
  have HS := hid (show decide (z = z) = true from by simp)
  have e1 : (z.toList == z.toList) = true := by simp
  go_enter Tryz.func63, Tryz.ntmps63
  go_wp2_with fail
  refine (C1.out _ HB0.out).mono ?_
  rintro r w1 ⟨rfl, hb1⟩
  have p5 := kCb hb1 (a := ⟨w.heap.size, 5, none⟩) (v := .int .i64 i2) (by simp [go_sem])
  have r5 := kCb hb1 (a := ⟨w.heap.size + 1, 5, none⟩) (v := .int .i64 vi2) (by simp [go_sem])
  have p6 := kCb hb1 (a := ⟨w.heap.size, 6, none⟩) (v := .bool s2) (by simp [go_sem])
  have r6 := kCb hb1 (a := ⟨w.heap.size + 1, 6, none⟩) (v := .bool vs2) (by simp [go_sem])
  have p7 := kCb hb1 (a := ⟨w.heap.size, 7, none⟩) (v := .slice x2 n2 c2) (by simp [go_sem])
  have r7 := kCb hb1 (a := ⟨w.heap.size + 1, 7, none⟩) (v := .slice vx2 vn2 vc2) (by simp [go_sem])
  have p8 := kCb hb1 (a := ⟨w.heap.size, 8, none⟩) (v := .slice y2 m2 d2) (by simp [go_sem])
  have r8 := kCb hb1 (a := ⟨w.heap.size + 1, 8, none⟩) (v := .slice vy2 vm2 vd2) (by simp [go_sem])
  have p9 := kCb hb1 (a := ⟨w.heap.size, 9, none⟩) (v := .slice ta tk tc) (by simp [go_sem])
  have r9 := kCb hb1 (a := ⟨w.heap.size + 1, 9, none⟩) (v := .slice vta vtk vtc) (by simp [go_sem])
  have HB1 := hid (HB0.out.trans (hb1.mono HB0.out.size))
  clear hb1 C1
  cases t1
  · go_wp2
    go_ret
    refine ⟨?_, HB1.out⟩
    rw [HA.out, HS.out]; rfl
  go_wp2_with fail
  refine (C2.out _ HB1.out).mono ?_
  rintro r w2 ⟨rfl, hb2⟩
  replace p9 := kCb hb2 p9; replace r9 := kCb hb2 r9
  have HB2 := hid (HB1.out.trans (hb2.mono HB1.out.size))
  clear hb2 C2
  cases t2
  · go_wp2
    go_ret
    refine ⟨?_, HB2.out⟩
    rw [HA.out, HS.out]; rfl
  go_wp2_with fail
  refine (C3.out _ HB2.out).mono ?_
  rintro r w3 ⟨rfl, hb3⟩
  have HB3 := hid (HB2.out.trans (hb3.mono HB2.out.size))
  clear hb3 C3
  cases t3
  · go_wp2
    go_ret
    refine ⟨?_, HB3.out⟩
    rw [HA.out, HS.out]; rfl
  · go_wp2
    go_ret
    refine ⟨?_, HB3.out⟩
    rw [HA.out, HS.out]; rfl
set_option maxRecDepth 100000 in
set_option maxHeartbeats 4000000 in
theorem equalRs_c {w : World} {ao bo : Option Addr} {k l cap cap' : Nat} {X Y : Nat → Lr} (hx : Rls w ao k X) (hy : Rls w bo l Y) (hk : k ≤ 1048576) (hl : l ≤ 1048576) :
    Calls Tryz.prog 62 #[.slice ao k cap, .slice bo l cap', .func (.func 63) #[] #[]] w fun e w' => e = .returned (.bool (eqfB srB k l X Y)) ∧ Below w.heap.size w w' := by
  have HX := hid hx; have HY := hid hy
  clear hx hy
  by_cases hkl : k = l
  case neg =>
    have HE := hid (show eqfB srB k l X Y = false from by simp [eqfB, hkl])
    have e1 : ((k : Int) != (l : Int)) = true := by simp; omega
    clear hkl
    go_enter Tryz.func62, Tryz.ntmps62
    go_wp2
    go_ret
    refine ⟨?_, Below.refl _ _⟩
    rw [HE.out]; rfl
  subst hkl
  have HE := hid (show eqfB srB k k X Y = eqf srB X Y k 0 from by simp [eqfB])
  have e1 : ((k : Int) != (k : Int)) = false := by simp
  go_enter Tryz.func62, Tryz.ntmps62
  go_wp2_with fail
  go_loopw [17] (fun t wr => ∃ (i : Nat), i ≤ k ∧ t = .int .i64 i ∧ Hid (Below w.heap.size w wr) ∧ Hid (eqfB srB k k X Y = eqf srB X Y (k - i) i)) (fun t _ => k - (intOf t).toNat)
  case atStart => exact ⟨0, by omega, rfl, Below.refl _ _, HE.out⟩
  case round =>
    obtain ⟨i, hi, rfl, HB, HI⟩ := hrel
    by_cases hlt : i < k
    · obtain ⟨b, o, rfl, hc, hn⟩ := HX.out i hlt
      obtain ⟨b2, o2, rfl, hc2, hn2⟩ := HY.out i hlt
      replace hc := hc.below HB.out; replace hc2 := hc2.below HB.out; replace hn := hn.below HB.out; replace hn2 := hn2.below HB.out
      obtain ⟨r, hr⟩ : ∃ r, k - i = r + 1 := ⟨k - i - 1, by omega⟩
      obtain ⟨t1, ht1⟩ : ∃ t, srB (X i) (Y i) = t := ⟨_, rfl⟩
      have hT : eqfB srB k k X Y = (t1 && eqf srB X Y r (i + 1)) := by rw [HI.out, hr, ← ht1]; rfl
      have hr2 : k - (i + 1) = r := by omega
      have CE := hid (fun w' (hw : Below wr.heap.size wr w') => sameRow_c (w := w') (hn.below hw) (hn2.below hw))
      rw [ht1] at CE
      obtain ⟨⟨z, ⟨i1, ⟨s1, x1, n1, c1, f1, y1, m1, d1, g1⟩⟩, ⟨i2, ⟨s2, x2, n2, c2, f2, y2, m2, d2, g2⟩⟩, ta, tk, tc, tcol, tt⟩, hCi⟩ : ∃ t, X i = t := ⟨_, rfl⟩
      obtain ⟨⟨vz, ⟨vi1, ⟨vs1, vx1, vn1, vc1, vf1, vy1, vm1, vd1, vg1⟩⟩, ⟨vi2, ⟨vs2, vx2, vn2, vc2, vf2, vy2, vm2, vd2, vg2⟩⟩, vta, vtk, vtc, vtcol, vtt⟩, hCi2⟩ : ∃ t, Y i = t := ⟨_, rfl⟩
      rw [hCi] at hc CE
      rw [hCi2] at hc2 CE
      replace CE : Hid (∀ w' (hw : Below wr.heap.size wr w'), Calls Tryz.prog 63 #[.agg #[.string z, .int .i64 i1, .bool s1, .slice x1 n1 c1, .slice y1 m1 d1, .int .i64 i2, .bool s2, .slice x2 n2 c2, .slice y2 m2 d2, .slice ta tk tc], .agg #[.string vz, .int .i64 vi1, .bool vs1, .slice vx1 vn1 vc1, .slice vy1 vm1 vd1, .int .i64 vi2, .bool vs2, .slice vx2 vn2 vc2, .slice vy2 vm2 vd2, .slice vta vtk vtc]] w' fun e w2 => e = .returned (.bool t1) ∧ Below w'.heap.size w' w2) := CE
      have hb1 := below_alloc (Below.refl wr.heap.size wr) (.cells #[.string z, .int .i64 i1, .bool s1, .slice x1 n1 c1, .slice y1 m1 d1, .int .i64 i2, .bool s2, .slice x2 n2 c2, .slice y2 m2 d2, .slice ta tk tc] 75)
      have q0 : wr.cell? ⟨b, o + i * 10, none⟩ = some (.string z) := hc 0 _ rfl
      have q1 : wr.cell? ⟨b, o + i * 10 + 1, none⟩ = some (.int .i64 i1) := hc 1 _ rfl
      have q2 : wr.cell? ⟨b, o + i * 10 + 2, none⟩ = some (.bool s1) := hc 2 _ rfl
      have q3 : wr.cell? ⟨b, o + i * 10 + 3, none⟩ = some (.slice x1 n1 c1) := hc 3 _ rfl
      have q4 : wr.cell? ⟨b, o + i * 10 + 4, none⟩ = some (.slice y1 m1 d1) := hc 4 _ rfl
      have q5 : wr.cell? ⟨b, o + i * 10 + 5, none⟩ = some (.int .i64 i2) := hc 5 _ rfl
      have q6 : wr.cell? ⟨b, o + i * 10 + 6, none⟩ = some (.bool s2) := hc 6 _ rfl
      have q7 : wr.cell? ⟨b, o + i * 10 + 7, none⟩ = some (.slice x2 n2 c2) := hc 7 _ rfl
      have q8 : wr.cell? ⟨b, o + i * 10 + 8, none⟩ = some (.slice y2 m2 d2) := hc 8 _ rfl
      have q9 : wr.cell? ⟨b, o + i * 10 + 9, none⟩ = some (.slice ta tk tc) := hc 9 _ rfl
      have g0' : (wr.alloc (.cells #[.string z, .int .i64 i1, .bool s1, .slice x1 n1 c1, .slice y1 m1 d1, .int .i64 i2, .bool s2, .slice x2 n2 c2, .slice y2 m2 d2, .slice ta tk tc] 75)).cell? ⟨b2, o2 + i * 10, none⟩ = some (.string vz) := kCb hb1 (hc2 0 _ rfl)
      have g1' : (wr.alloc (.cells #[.string z, .int .i64 i1, .bool s1, .slice x1 n1 c1, .slice y1 m1 d1, .int .i64 i2, .bool s2, .slice x2 n2 c2, .slice y2 m2 d2, .slice ta tk tc] 75)).cell? ⟨b2, o2 + i * 10 + 1, none⟩ = some (.int .i64 vi1) := kCb hb1 (hc2 1 _ rfl)
      have g2' : (wr.alloc (.cells #[.string z, .int .i64 i1, .bool s1, .slice x1 n1 c1, .slice y1 m1 d1, .int .i64 i2, .bool s2, .slice x2 n2 c2, .slice y2 m2 d2, .slice ta tk tc] 75)).cell? ⟨b2, o2 + i * 10 + 2, none⟩ = some (.bool vs1) := kCb hb1 (hc2 2 _ rfl)
      have g3' : (wr.alloc (.cells #[.string z, .int .i64 i1, .bool s1, .slice x1 n1 c1, .slice y1 m1 d1, .int .i64 i2, .bool s2, .slice x2 n2 c2, .slice y2 m2 d2, .slice ta tk tc] 75)).cell? ⟨b2, o2 + i * 10 + 3, none⟩ = some (.slice vx1 vn1 vc1) := kCb hb1 (hc2 3 _ rfl)
      have g4' : (wr.alloc (.cells #[.string z, .int .i64 i1, .bool s1, .slice x1 n1 c1, .slice y1 m1 d1, .int .i64 i2, .bool s2, .slice x2 n2 c2, .slice y2 m2 d2, .slice ta tk tc] 75)).cell? ⟨b2, o2 + i * 10 + 4, none⟩ = some (.slice vy1 vm1 vd1) := kCb hb1 (hc2 4 _ rfl)
      have g5' : (wr.alloc (.cells #[.string z, .int .i64 i1, .bool s1, .slice x1 n1 c1, .slice y1 m1 d1, .int .i64 i2, .bool s2, .slice x2 n2 c2, .slice y2 m2 d2, .slice ta tk tc] 75)).cell? ⟨b2, o2 + i * 10 + 5, none⟩ = some (.int .i64 vi2) := kCb hb1 (hc2 5 _ rfl)
      have g6' : (wr.alloc (.cells #[.string z, .int .i64 i1, .bool s1, .slice x1 n1 c1, .slice y1 m1 d1, .int .i64 i2, .bool s2, .slice x2 n2 c2, .slice y2 m2 d2, .slice ta tk tc] 75)).cell? ⟨b2, o2 + i * 10 + 6, none⟩ = some (.bool vs2) := kCb hb1 (hc2 6 _ rfl)
      have g7' : (wr.alloc (.cells #[.string z, .int .i64 i1, .bool s1, .slice x1 n1 c1, .slice y1 m1 d1, .int .i64 i2, .bool s2, .slice x2 n2 c2, .slice y2 m2 d2, .slice ta tk tc] 75)).cell? ⟨b2, o2 + i * 10 + 7, none⟩ = some (.slice vx2 vn2 vc2) := kCb hb1 (hc2 7 _ rfl)
      have g8' : (wr.alloc (.cells #[.string z, .int .i64 i1, .bool s1, .slice x1 n1 c1, .slice y1 m1 d1, .int .i64 i2, .bool s2, .slice x2 n2 c2, .slice y2 m2 d2, .slice ta tk tc] 75)).cell? ⟨b2, o2 + i * 10 + 8, none⟩ = some (.slice vy2 vm2 vd2) := kCb hb1 (hc2 8 _ rfl)
      have g9' : (wr.alloc (.cells #[.string z, .int .i64 i1, .bool s1, .slice x1 n1 c1, .slice y1 m1 d1, .int .i64 i2, .bool s2, .slice x2 n2 c2, .slice y2 m2 d2, .slice ta tk tc] 75)).cell? ⟨b2, o2 + i * 10 + 9, none⟩ = some (.slice vta vtk vtc) := kCb hb1 (hc2 9 _ rfl)
      have p0 : ((wr.alloc (.cells #[.string z, .int .i64 i1, .bool s1, .slice x1 n1 c1, .slice y1 m1 d1, .int .i64 i2, .bool s2, .slice x2 n2 c2, .slice y2 m2 d2, .slice ta tk tc] 75)).alloc (.cells #[.string vz, .int .i64 vi1, .bool vs1, .slice vx1 vn1 vc1, .slice vy1 vm1 vd1, .int .i64 vi2, .bool vs2, .slice vx2 vn2 vc2, .slice vy2 vm2 vd2, .slice vta vtk vtc] 75)).cell? ⟨wr.heap.size, 0, none⟩ = some (.string z) := by simp [go_sem]
      have p1 : ((wr.alloc (.cells #[.string z, .int .i64 i1, .bool s1, .slice x1 n1 c1, .slice y1 m1 d1, .int .i64 i2, .bool s2, .slice x2 n2 c2, .slice y2 m2 d2, .slice ta tk tc] 75)).alloc (.cells #[.string vz, .int .i64 vi1, .bool vs1, .slice vx1 vn1 vc1, .slice vy1 vm1 vd1, .int .i64 vi2, .bool vs2, .slice vx2 vn2 vc2, .slice vy2 vm2 vd2, .slice vta vtk vtc] 75)).cell? ⟨wr.heap.size, 1, none⟩ = some (.int .i64 i1) := by simp [go_sem]
      have p2 : ((wr.alloc (.cells #[.string z, .int .i64 i1, .bool s1, .slice x1 n1 c1, .slice y1 m1 d1, .int .i64 i2, .bool s2, .slice x2 n2 c2, .slice y2 m2 d2, .slice ta tk tc] 75)).alloc (.cells #[.string vz, .int .i64 vi1, .bool vs1, .slice vx1 vn1 vc1, .slice vy1 vm1 vd1, .int .i64 vi2, .bool vs2, .slice vx2 vn2 vc2, .slice vy2 vm2 vd2, .slice vta vtk vtc] 75)).cell? ⟨wr.heap.size, 2, none⟩ = some (.bool s1) := by simp [go_sem]
      have p3 : ((wr.alloc (.cells #[.string z, .int .i64 i1, .bool s1, .slice x1 n1 c1, .slice y1 m1 d1, .int .i64 i2, .bool s2, .slice x2 n2 c2, .slice y2 m2 d2, .slice ta tk tc] 75)).alloc (.cells #[.string vz, .int .i64 vi1, .bool vs1, .slice vx1 vn1 vc1, .slice vy1 vm1 vd1, .int .i64 vi2, .bool vs2, .slice vx2 vn2 vc2, .slice vy2 vm2 vd2, .slice vta vtk vtc] 75)).cell? ⟨wr.heap.size, 3, none⟩ = some (.slice x1 n1 c1) := by simp [go_sem]
      have p4 : ((wr.alloc (.cells #[.string z, .int .i64 i1, .bool s1, .slice x1 n1 c1, .slice y1 m1 d1, .int .i64 i2, .bool s2, .slice x2 n2 c2, .slice y2 m2 d2, .slice ta tk tc] 75)).alloc (.cells #[.string vz, .int .i64 vi1, .bool vs1, .slice vx1 vn1 vc1, .slice vy1 vm1 vd1, .int .i64 vi2, .bool vs2, .slice vx2 vn2 vc2, .slice vy2 vm2 vd2, .slice vta vtk vtc] 75)).cell? ⟨wr.heap.size, 4, none⟩ = some (.slice y1 m1 d1) := by simp [go_sem]
      have p5 : ((wr.alloc (.cells #[.string z, .int .i64 i1, .bool s1, .slice x1 n1 c1, .slice y1 m1 d1, .int .i64 i2, .bool s2, .slice x2 n2 c2, .slice y2 m2 d2, .slice ta tk tc] 75)).alloc (.cells #[.string vz, .int .i64 vi1, .bool vs1, .slice vx1 vn1 vc1, .slice vy1 vm1 vd1, .int .i64 vi2, .bool vs2, .slice vx2 vn2 vc2, .slice vy2 vm2 vd2, .slice vta vtk vtc] 75)).cell? ⟨wr.heap.size, 5, none⟩ = some (.int .i64 i2) := by simp [go_sem]
      have p6 : ((wr.alloc (.cells #[.string z, .int .i64 i1, .bool s1, .slice x1 n1 c1, .slice y1 m1 d1, .int .i64 i2, .bool s2, .slice x2 n2 c2, .slice y2 m2 d2, .slice ta tk tc] 75)).alloc (.cells #[.string vz, .int .i64 vi1, .bool vs1, .slice vx1 vn1 vc1, .slice vy1 vm1 vd1, .int .i64 vi2, .bool vs2, .slice vx2 vn2 vc2, .slice vy2 vm2 vd2, .slice vta vtk vtc] 75)).cell? ⟨wr.heap.size, 6, none⟩ = some (.bool s2) := by simp [go_sem]
      have p7 : ((wr.alloc (.cells #[.string z, .int .i64 i1, .bool s1, .slice x1 n1 c1, .slice y1 m1 d1, .int .i64 i2, .bool s2, .slice x2 n2 c2, .slice y2 m2 d2, .slice ta tk tc] 75)).alloc (.cells #[.string vz, .int .i64 vi1, .bool vs1, .slice vx1 vn1 vc1, .slice vy1 vm1 vd1, .int .i64 vi2, .bool vs2, .slice vx2 vn2 vc2, .slice vy2 vm2 vd2, .slice vta vtk vtc] 75)).cell? ⟨wr.heap.size, 7, none⟩ = some (.slice x2 n2 c2) := by simp [go_sem]
      have p8 : ((wr.alloc (.cells #[.string z, .int .i64 i1, .bool s1, .slice x1 n1 c1, .slice y1 m1 d1, .int .i64 i2, .bool s2, .slice x2 n2 c2, .slice y2 m2 d2, .slice ta tk tc] 75)).alloc (.cells #[.string vz, .int .i64 vi1, .bool vs1, .slice vx1 vn1 vc1, .slice vy1 vm1 vd1, .int .i64 vi2, .bool vs2, .slice vx2 vn2 vc2, .slice vy2 vm2 vd2, .slice vta vtk vtc] 75)).cell? ⟨wr.heap.size, 8, none⟩ = some (.slice y2 m2 d2) := by simp [go_sem]
      have p9 : ((wr.alloc (.cells #[.string z, .int .i64 i1, .bool s1, .slice x1 n1 c1, .slice y1 m1 d1, .int .i64 i2, .bool s2, .slice x2 n2 c2, .slice y2 m2 d2, .slice ta tk tc] 75)).alloc (.cells #[.string vz, .int .i64 vi1, .bool vs1, .slice vx1 vn1 vc1, .slice vy1 vm1 vd1, .int .i64 vi2, .bool vs2, .slice vx2 vn2 vc2, .slice vy2 vm2 vd2, .slice vta vtk vtc] 75)).cell? ⟨wr.heap.size, 9, none⟩ = some (.slice ta tk tc) := by simp [go_sem]
      have r0 : ((wr.alloc (.cells #[.string z, .int .i64 i1, .bool s1, .slice x1 n1 c1, .slice y1 m1 d1, .int .i64 i2, .bool s2, .slice x2 n2 c2, .slice y2 m2 d2, .slice ta tk tc] 75)).alloc (.cells #[.string vz, .int .i64 vi1, .bool vs1, .slice vx1 vn1 vc1, .slice vy1 vm1 vd1, .int .i64 vi2, .bool vs2, .slice vx2 vn2 vc2, .slice vy2 vm2 vd2, .slice vta vtk vtc] 75)).cell? ⟨wr.heap.size + 1, 0, none⟩ = some (.string vz) := by simp [go_sem]
      have r1 : ((wr.alloc (.cells #[.string z, .int .i64 i1, .bool s1, .slice x1 n1 c1, .slice y1 m1 d1, .int .i64 i2, .bool s2, .slice x2 n2 c2, .slice y2 m2 d2, .slice ta tk tc] 75)).alloc (.cells #[.string vz, .int .i64 vi1, .bool vs1, .slice vx1 vn1 vc1, .slice vy1 vm1 vd1, .int .i64 vi2, .bool vs2, .slice vx2 vn2 vc2, .slice vy2 vm2 vd2, .slice vta vtk vtc] 75)).cell? ⟨wr.heap.size + 1, 1, none⟩ = some (.int .i64 vi1) := by simp [go_sem]
      have r2 : ((wr.alloc (.cells #[.string z, .int .i64 i1, .bool s1, .slice x1 n1 c1, .slice y1 m1 d1, .int .i64 i2, .bool s2, .slice x2 n2 c2, .slice y2 m2 d2, .slice ta tk tc] 75)).alloc (.cells #[.string vz, .int .i64 vi1, .bool vs1, .slice vx1 vn1 vc1, .slice vy1 vm1 vd1, .int .i64 vi2, .bool vs2, .slice vx2 vn2 vc2, .slice vy2 vm2 vd2, .slice vta vtk vtc] 75)).cell? ⟨wr.heap.size + 1, 2, none⟩ = some (.bool vs1) := by simp [go_sem]
      have r3 : ((wr.alloc (.cells #[.string z, .int .i64 i1, .bool s1, .slice x1 n1 c1, .slice y1 m1 d1, .int .i64 i2, .bool s2, .slice x2 n2 c2, .slice y2 m2 d2, .slice ta tk tc] 75)).alloc (.cells #[.string vz, .int .i64 vi1, .bool vs1, .slice vx1 vn1 vc1, .slice vy1 vm1 vd1, .int .i64 vi2, .bool vs2, .slice vx2 vn2 vc2, .slice vy2 vm2 vd2, .slice vta vtk vtc] 75)).cell? ⟨wr.heap.size + 1, 3, none⟩ = some (.slice vx1 vn1 vc1) := by simp [go_sem]
      have r4 : ((wr.alloc (.cells #[.string z, .int .i64 i1, .bool s1, .slice x1 n1 c1, .slice y1 m1 d1, .int .i64 i2, .bool s2, .slice x2 n2 c2, .slice y2 m2 d2, .slice ta tk tc] 75)).alloc (.cells #[.string vz, .int .i64 vi1, .bool vs1, .slice vx1 vn1 vc1, .slice vy1 vm1 vd1, .int .i64 vi2, .bool vs2, .slice vx2 vn2 vc2, .slice vy2 vm2 vd2, .slice vta vtk vtc] 75)).cell? ⟨wr.heap.size + 1, 4, none⟩ = some (.slice vy1 vm1 vd1) := by simp [go_sem]
      have r5 : ((wr.alloc (.cells #[.string z, .int .i64 i1, .bool s1, .slice x1 n1 c1, .slice y1 m1 d1, .int .i64 i2, .bool s2, .slice x2 n2 c2, .slice y2 m2 d2, .slice ta tk tc] 75)).alloc (.cells #[.string vz, .int .i64 vi1, .bool vs1, .slice vx1 vn1 vc1, .slice vy1 vm1 vd1, .int .i64 vi2, .bool vs2, .slice vx2 vn2 vc2, .slice vy2 vm2 vd2, .slice vta vtk vtc] 75)).cell? ⟨wr.heap.size + 1, 5, none⟩ = some (.int .i64 vi2) := by simp [go_sem]
      have r6 : ((wr.alloc (.cells #[.string z, .int .i64 i1, .bool s1, .slice x1 n1 c1, .slice y1 m1 d1, .int .i64 i2, .bool s2, .slice x2 n2 c2, .slice y2 m2 d2, .slice ta tk tc] 75)).alloc (.cells #[.string vz, .int .i64 vi1, .bool vs1, .slice vx1 vn1 vc1, .slice vy1 vm1 vd1, .int .i64 vi2, .bool vs2, .slice vx2 vn2 vc2, .slice vy2 vm2 vd2, .slice vta vtk vtc] 75)).cell? ⟨wr.heap.size + 1, 6, none⟩ = some (.bool vs2) := by simp [go_sem]
      have r7 : ((wr.alloc (.cells #[.string z, .int .i64 i1, .bool s1, .slice x1 n1 c1, .slice y1 m1 d1, .int .i64 i2, .bool s2, .slice x2 n2 c2, .slice y2 m2 d2, .slice ta tk tc] 75)).alloc (.cells #[.string vz, .int .i64 vi1, .bool vs1, .slice vx1 vn1 vc1, .slice vy1 vm1 vd1, .int .i64 vi2, .bool vs2, .slice vx2 vn2 vc2, .slice vy2 vm2 vd2, .slice vta vtk vtc] 75)).cell? ⟨wr.heap.size + 1, 7, none⟩ = some (.slice vx2 vn2 vc2) := by simp [go_sem]
      have r8 : ((wr.alloc (.cells #[.string z, .int .i64 i1, .bool s1, .slice x1 n1 c1, .slice y1 m1 d1, .int .i64 i2, .bool s2, .slice x2 n2 c2, .slice y2 m2 d2, .slice ta tk tc] 75)).alloc (.cells #[.string vz, .int .i64 vi1, .bool vs1, .slice vx1 vn1 vc1, .slice vy1 vm1 vd1, .int .i64 vi2, .bool vs2, .slice vx2 vn2 vc2, .slice vy2 vm2 vd2, .slice vta vtk vtc] 75)).cell? ⟨wr.heap.size + 1, 8, none⟩ = some (.slice vy2 vm2 vd2) := by simp [go_sem]
      have r9 : ((wr.alloc (.cells #[.string z, .int .i64 i1, .bool s1, .slice x1 n1 c1, .slice y1 m1 d1, .int .i64 i2, .bool s2, .slice x2 n2 c2, .slice y2 m2 d2, .slice ta tk tc] 75)).alloc (.cells #[.string vz, .int .i64 vi1, .bool vs1, .slice vx1 vn1 vc1, .slice vy1 vm1 vd1, .int .i64 vi2, .bool vs2, .slice vx2 vn2 vc2, .slice vy2 vm2 vd2, .slice vta vtk vtc] 75)).cell? ⟨wr.heap.size + 1, 9, none⟩ = some (.slice vta vtk vtc) := by simp [go_sem]
      have HB6 := hid (below_alloc hb1 (.cells #[.string vz, .int .i64 vi1, .bool vs1, .slice vx1 vn1 vc1, .slice vy1 vm1 vd1, .int .i64 vi2, .bool vs2, .slice vx2 vn2 vc2, .slice vy2 vm2 vd2, .slice vta vtk vtc] 75))
      have HT := hid hT; have HR := hid hr2
      have i1' : ((i : Nat) : Int) < ((k : Nat) : Int) := by omega
      clear hT hr2 hr hCi hCi2 ht1 hc hc2 hn hn2 hb1
      go_upto_region 7 with fail
      clear q0 g0' q1 g1' q2 g2' q3 g3' q4 g4' q5 g5' q6 g6' q7 g7' q8 g8' q9 g9'
      generalize ((wr.alloc (.cells #[.string z, .int .i64 i1, .bool s1, .slice x1 n1 c1, .slice y1 m1 d1, .int .i64 i2, .bool s2, .slice x2 n2 c2, .slice y2 m2 d2, .slice ta tk tc] 75)).alloc (.cells #[.string vz, .int .i64 vi1, .bool vs1, .slice vx1 vn1 vc1, .slice vy1 vm1 vd1, .int .i64 vi2, .bool vs2, .slice vx2 vn2 vc2, .slice vy2 vm2 vd2, .slice vta vtk vtc] 75)) = w6 at *
      go_wp2_with fail
      refine (CE.out _ HB6.out).mono ?_
      rintro e w7 ⟨rfl, hb7⟩
      have HB7 := hid (HB.out.trans ((HB6.out.trans (hb7.mono HB6.out.size)).mono HB.out.size))
      clear hb7 HB6 CE p0 r0 p1 r1 p2 r2 p3 r3 p4 r4 p5 r5 p6 r6 p7 r7 p8 r8 p9 r9
      cases t1
      · go_wp2
        go_ret
        refine ⟨?_, HB7.out⟩
        rw [HT.out]; rfl
      · go_wp2
        go_roundw
        case rel =>
          refine ⟨i + 1, by omega, by go_num, HB7.out, ?_⟩
          show _ = _
          rw [HT.out, HR.out]; rfl
        case measure => simp [intOf]; omega
    · have e1 : i = k := by omega
      have HE : Hid (eqfB srB k k X Y = true) := by show _ = _; rw [HI.out, e1, Nat.sub_self]; rfl
      have i2 : ¬ (((i : Nat) : Int) < ((k : Nat) : Int)) := by omega
      clear e1 HI
      go_wp2
      go_ret
      refine ⟨?_, HB.out⟩
      rw [HE.out]; rfl
end Go.Proofs.YtbmfcogfgdggkaaGreat
namespace Go.Proofs.YtbmfcogfgdggkaaGreat
open Go.RowKit

def lstep (l e : Int) : Int := if l = 0 ∨ e ≠ 0 ∧ e < l then e else l
/-- The least of the first i errors. -/
def lsf (E : Nat → Int) : Nat → Int
  | 0 => 0
  | i + 1 => lstep (lsf E i) (E i)
def El (w : World) (ao : Option Addr) (k : Nat) (E : Nat → Int) : Prop := ∀ j, j < k → ∃ b o, ao = some ⟨b, o, none⟩ ∧ w.cell? ⟨b, o + j, none⟩ = some (.int .i64 (E j))
set_option maxRecDepth 100000 in
set_option maxHeartbeats 2000000 in
theorem least_c {w : World} {ao : Option Addr} {k cap : Nat} {E : Nat → Int} (h : El w ao k E) (hk : k ≤ 1048576) :
    Calls Tryz.prog 58 #[.slice ao k cap] w fun e w' => e = .returned (.int .i64 (lsf E k)) ∧ w' = w := by
  have H := hid h
  clear h
  go_enter Tryz.func58, Tryz.ntmps58
  go_wp2_with fail
  go_loopw [3, 8] (fun l t wr => ∃ (i : Nat) (v : Int), i ≤ k ∧ t = .int .i64 i ∧ l = .int .i64 v ∧ wr = w ∧ Hid (lsf E i = v)) (fun _ t _ => k - (intOf t).toNat)
  case atStart => exact ⟨0, 0, by omega, rfl, rfl, rfl, rfl⟩
  case round =>
    obtain ⟨i, v, hi, rfl, rfl, rfl, HI⟩ := hrel
    by_cases hlt : i < k
    · obtain ⟨b, o, rfl, hc⟩ := H.out i hlt
      obtain ⟨e, he⟩ : ∃ e, E i = e := ⟨_, rfl⟩
      have hT : lsf E (i + 1) = lstep v e := by show lstep (lsf E i) (E i) = _; rw [HI.out, he]
      rw [he] at hc
      have i1 : ((i : Nat) : Int) < ((k : Nat) : Int) := by omega
      clear he
      by_cases h0 : v = 0
      · subst h0
        have HT := hid (show lsf E (i + 1) = e from by rw [hT]; simp [lstep])
        clear hT
        go_wp2
        go_roundw
        case rel => exact ⟨i + 1, e, by omega, by go_num, rfl, trivial, HT.out⟩
        case measure => simp [intOf]; omega
      · have e0 : (v == 0) = false := by simpa using h0
        by_cases h1 : e = 0
        · subst h1
          have HT := hid (show lsf E (i + 1) = v from by rw [hT]; simp [lstep, h0])
          clear hT
          go_wp2
          go_roundw
          case rel => exact ⟨i + 1, v, by omega, by go_num, rfl, trivial, HT.out⟩
          case measure => simp [intOf]; omega
        · have e2 : (e != 0) = true := by simp [h1]
          by_cases h2 : e < v
          · have HT := hid (show lsf E (i + 1) = e from by rw [hT]; simp [lstep, h1, h2])
            clear hT
            go_wp2
            go_roundw
            case rel => exact ⟨i + 1, e, by omega, by go_num, rfl, trivial, HT.out⟩
            case measure => simp [intOf]; omega
          · have HT := hid (show lsf E (i + 1) = v from by rw [hT]; simp [lstep, h0, h2])
            clear hT
            go_wp2
            go_roundw
            case rel => exact ⟨i + 1, v, by omega, by go_num, rfl, trivial, HT.out⟩
            case measure => simp [intOf]; omega
    · have e1 : i = k := by omega
      have i2 : ¬ (((i : Nat) : Int) < ((k : Nat) : Int)) := by omega
      rw [e1] at HI
      clear e1
      go_wp2
      go_ret
      refine ⟨?_, rfl⟩
      rw [HI.out]; rfl
def two (a b : Int) (j : Nat) : Int := if j = 0 then a else b
theorem two_el {w : World} {a b : Int} {t : TypeId} : El (w.alloc (.cells #[.int .i64 a, .int .i64 b] t)) (some ⟨w.heap.size, 0, none⟩) 2 (two a b) := fun j hj => by
  refine ⟨_, 0, rfl, ?_⟩
  match j, hj with
  | 0, _ => simp [go_sem, two]
  | 1, _ => simp [go_sem, two]
/-- The least of two errors is none: neither is one. -/
theorem two_zero {a b : Int} (h : lsf (two a b) 2 = 0) : a = 0 ∧ b = 0 := by
  have h' : lstep (lstep 0 a) b = 0 := h
  have e : lstep 0 a = a := by simp [lstep]
  rw [e] at h'
  unfold lstep at h'
  split at h' <;> omega
/-- Equal's answer. -/
def eqA (a b : Mo) : Bool × Int := if lsf (two (chkE a) (chkE b)) 2 = 0 then (sqB a.off b.off && (eqfB scB a.ck b.ck a.C b.C && eqfB srB a.rk b.rk a.R b.R), 0) else (false, lsf (two (chkE a) (chkE b)) 2)
set_option maxRecDepth 100000 in
set_option maxHeartbeats 4000000 in
theorem equal_c {w : World} {a b : Mo} (ha : MoW w a) (hb : MoW w b) : Calls Tryz.prog 26 #[a.val, b.val] w fun r w' => r = .returned (.tuple #[.bool (eqA a b).1, .int .i64 (eqA a b).2]) ∧ Below w.heap.size w w' := by
  have D1 := hid (fun w' (hw : Below w.heap.size w w') => check_w (w := w') (ha.below hw))
  have D2 := hid (fun w' (hw : Below w.heap.size w w') => check_w (w := w') (hb.below hw))
  obtain ⟨e1, he1⟩ : ∃ e, chkE a = e := ⟨_, rfl⟩
  obtain ⟨e2, he2⟩ : ∃ e, chkE b = e := ⟨_, rfl⟩
  obtain ⟨er, her⟩ : ∃ e, lsf (two e1 e2) 2 = e := ⟨_, rfl⟩
  obtain ⟨t1, ht1⟩ : ∃ t, sqB a.off b.off = t := ⟨_, rfl⟩
  obtain ⟨t2, ht2⟩ : ∃ t, eqfB scB a.ck b.ck a.C b.C = t := ⟨_, rfl⟩
  obtain ⟨t3, ht3⟩ : ∃ t, eqfB srB a.rk b.rk a.R b.R = t := ⟨_, rfl⟩
  obtain ⟨an, han⟩ : ∃ t, eqA a b = t := ⟨_, rfl⟩
  have HA := hid (show an = if er = 0 then (t1 && (t2 && t3), 0) else (false, er) from by rw [← han, eqA, he1, he2, her, ht1, ht2, ht3])
  have HS := hid (show er = 0 → MoR w a ∧ MoR w b from fun h0 => by
    obtain ⟨h1, h2⟩ := two_zero (her.trans h0)
    obtain ⟨l1, l2, _⟩ := chkE_ok (he1.trans h1)
    obtain ⟨l3, l4, _⟩ := chkE_ok (he2.trans h2)
    exact ⟨ha l1 l2, hb l3 l4⟩)
  have C3 := hid (fun (h0 : er = 0) w' (hw : Below w.heap.size w w') => sameRat_c (w := w') ((HS.out h0).1.off.below hw) ((HS.out h0).2.off.below hw))
  have C4 := hid (fun (h0 : er = 0) w' (hw : Below w.heap.size w w') => equalCs_c (w := w') (cap := a.cc) (cap' := b.cc) ((HS.out h0).1.cls.below hw) ((HS.out h0).2.cls.below hw) (HS.out h0).1.ck (HS.out h0).2.ck)
  have C5 := hid (fun (h0 : er = 0) w' (hw : Below w.heap.size w w') => equalRs_c (w := w') (cap := a.rc) (cap' := b.rc) ((HS.out h0).1.rls.below hw) ((HS.out h0).2.rls.below hw) (HS.out h0).1.rk (HS.out h0).2.rk)
  rw [he1] at D1
  rw [he2] at D2
  rw [ht1] at C3
  rw [ht2] at C4
  rw [ht3] at C5
  rw [han]
  clear han ht1 ht2 ht3 he1 he2 ha hb HS
  obtain ⟨⟨s, x, n, c, f, y, m, d, g⟩, ca, ck, cc, C, ra, rk, rc, R⟩ := a
  obtain ⟨⟨vs, vx, vn, vc, vf', vy, vm, vd, vg⟩, vca, vck, vcc, vC, vra, vrk, vrc, vR⟩ := b
  obtain ⟨an1, an2⟩ := an
  replace D1 : Hid (∀ w' (hw : Below w.heap.size w w'), Calls Tryz.prog 14 #[.agg #[.bool s, .slice x n c, .slice y m d, .slice ca ck cc, .slice ra rk rc]] w' fun e w2 => e = .returned (.int .i64 e1) ∧ Below w'.heap.size w' w2) := D1
  replace D2 : Hid (∀ w' (hw : Below w.heap.size w w'), Calls Tryz.prog 14 #[.agg #[.bool vs, .slice vx vn vc, .slice vy vm vd, .slice vca vck vcc, .slice vra vrk vrc]] w' fun e w2 => e = .returned (.int .i64 e2) ∧ Below w'.heap.size w' w2) := D2
  replace C3 : Hid (∀ (h0 : er = 0) w' (hw : Below w.heap.size w w'), Calls Tryz.prog 59 #[.agg #[.bool s, .slice x n c, .slice y m d], .agg #[.bool vs, .slice vx vn vc, .slice vy vm vd]] w' fun e w2 => e = .returned (.bool t1) ∧ Below w'.heap.size w' w2) := C3
  replace C4 : Hid (∀ (h0 : er = 0) w' (hw : Below w.heap.size w w'), Calls Tryz.prog 60 #[.slice ca ck cc, .slice vca vck vcc, .func (.func 61) #[] #[]] w' fun e w2 => e = .returned (.bool t2) ∧ Below w'.heap.size w' w2) := C4
  replace C5 : Hid (∀ (h0 : er = 0) w' (hw : Below w.heap.size w w'), Calls Tryz.prog 62 #[.slice ra rk rc, .slice vra vrk vrc, .func (.func 63) #[] #[]] w' fun e w2 => e = .returned (.bool t3) ∧ Below w'.heap.size w' w2) := C5
  show Calls Tryz.prog 26 #[.agg #[.bool s, .slice x n c, .slice y m d, .slice ca ck cc, .slice ra rk rc], .agg #[.bool vs, .slice vx vn vc, .slice vy vm vd, .slice vca vck vcc, .slice vra vrk vrc]] w fun r w' => r = .returned (.tuple #[.bool an1, .int .i64 an2]) ∧ Below w.heap.size w w'
  have HB0 := hid (below_alloc (below_alloc (Below.refl w.heap.size w) (.cells #[.bool s, .slice x n c, .slice y m d, .slice ca ck cc, .slice ra rk rc] 28)) (.cells #[.bool vs, .slice vx vn vc, .slice vy vm vd, .slice vca vck vcc, .slice vra vrk vrc] 28))
  have p0 : ((w.alloc (.cells #[.bool s, .slice x n c, .slice y m d, .slice ca ck cc, .slice ra rk rc] 28)).alloc (.cells #[.bool vs, .slice vx vn vc, .slice vy vm vd, .slice vca vck vcc, .slice vra vrk vrc] 28)).cell? ⟨w.heap.size, 0, none⟩ = some (.bool s) := by simp [go_sem]
  have r0 : ((w.alloc (.cells #[.bool s, .slice x n c, .slice y m d, .slice ca ck cc, .slice ra rk rc] 28)).alloc (.cells #[.bool vs, .slice vx vn vc, .slice vy vm vd, .slice vca vck vcc, .slice vra vrk vrc] 28)).cell? ⟨w.heap.size + 1, 0, none⟩ = some (.bool vs) := by simp [go_sem]
  have p1 : ((w.alloc (.cells #[.bool s, .slice x n c, .slice y m d, .slice ca ck cc, .slice ra rk rc] 28)).alloc (.cells #[.bool vs, .slice vx vn vc, .slice vy vm vd, .slice vca vck vcc, .slice vra vrk vrc] 28)).cell? ⟨w.heap.size, 1, none⟩ = some (.slice x n c) := by simp [go_sem]
  have r1 : ((w.alloc (.cells #[.bool s, .slice x n c, .slice y m d, .slice ca ck cc, .slice ra rk rc] 28)).alloc (.cells #[.bool vs, .slice vx vn vc, .slice vy vm vd, .slice vca vck vcc, .slice vra vrk vrc] 28)).cell? ⟨w.heap.size + 1, 1, none⟩ = some (.slice vx vn vc) := by simp [go_sem]
  have p2 : ((w.alloc (.cells #[.bool s, .slice x n c, .slice y m d, .slice ca ck cc, .slice ra rk rc] 28)).alloc (.cells #[.bool vs, .slice vx vn vc, .slice vy vm vd, .slice vca vck vcc, .slice vra vrk vrc] 28)).cell? ⟨w.heap.size, 2, none⟩ = some (.slice y m d) := by simp [go_sem]
  have r2 : ((w.alloc (.cells #[.bool s, .slice x n c, .slice y m d, .slice ca ck cc, .slice ra rk rc] 28)).alloc (.cells #[.bool vs, .slice vx vn vc, .slice vy vm vd, .slice vca vck vcc, .slice vra vrk vrc] 28)).cell? ⟨w.heap.size + 1, 2, none⟩ = some (.slice vy vm vd) := by simp [go_sem]
  have p3 : ((w.alloc (.cells #[.bool s, .slice x n c, .slice y m d, .slice ca ck cc, .slice ra rk rc] 28)).alloc (.cells #[.bool vs, .slice vx vn vc, .slice vy vm vd, .slice vca vck vcc, .slice vra vrk vrc] 28)).cell? ⟨w.heap.size, 3, none⟩ = some (.slice ca ck cc) := by simp [go_sem]
  have r3 : ((w.alloc (.cells #[.bool s, .slice x n c, .slice y m d, .slice ca ck cc, .slice ra rk rc] 28)).alloc (.cells #[.bool vs, .slice vx vn vc, .slice vy vm vd, .slice vca vck vcc, .slice vra vrk vrc] 28)).cell? ⟨w.heap.size + 1, 3, none⟩ = some (.slice vca vck vcc) := by simp [go_sem]
  have p4 : ((w.alloc (.cells #[.bool s, .slice x n c, .slice y m d, .slice ca ck cc, .slice ra rk rc] 28)).alloc (.cells #[.bool vs, .slice vx vn vc, .slice vy vm vd, .slice vca vck vcc, .slice vra vrk vrc] 28)).cell? ⟨w.heap.size, 4, none⟩ = some (.slice ra rk rc) := by simp [go_sem]
  have r4 : ((w.alloc (.cells #[.bool s, .slice x n c, .slice y m d, .slice ca ck cc, .slice ra rk rc] 28)).alloc (.cells #[.bool vs, .slice vx vn vc, .slice vy vm vd, .slice vca vck vcc, .slice vra vrk vrc] 28)).cell? ⟨w.heap.size + 1, 4, none⟩ = some (.slice vra vrk vrc) := by simp [go_sem]
  go_enter Tryz.func26, Tryz.ntmps26
  go_upto_region 1 with fail
  generalize ((w.alloc (.cells #[.bool s, .slice x n c, .slice y m d, .slice ca ck cc, .slice ra rk rc] 28)).alloc (.cells #[.bool vs, .slice vx vn vc, .slice vy vm vd, .slice vca vck vcc, .slice vra vrk vrc] 28)) = w0 at *
  have C1 : Hid (∀ W, Below w0.heap.size w0 W → Calls Tryz.prog 14 #[.agg #[.bool s, .slice x n c, .slice y m d, .slice ca ck cc, .slice ra rk rc]] W fun e w' => e = .returned (.int .i64 e1) ∧ Below W.heap.size W w') := fun W hW => D1.out W (HB0.out.trans (hW.mono HB0.out.size))
  have C2 : Hid (∀ W, Below w0.heap.size w0 W → Calls Tryz.prog 14 #[.agg #[.bool vs, .slice vx vn vc, .slice vy vm vd, .slice vca vck vcc, .slice vra vrk vrc]] W fun e w' => e = .returned (.int .i64 e2) ∧ Below W.heap.size W w') := fun W hW => D2.out W (HB0.out.trans (hW.mono HB0.out.size))
  clear D1 D2
  refine wp_region_held_drew (S := fun w' => w'.cell? ⟨w.heap.size, 0, none⟩ = some (.bool s) ∧ w'.cell? ⟨w.heap.size, 1, none⟩ = some (.slice x n c) ∧ w'.cell? ⟨w.heap.size, 2, none⟩ = some (.slice y m d) ∧ w'.cell? ⟨w.heap.size, 3, none⟩ = some (.slice ca ck cc) ∧ w'.cell? ⟨w.heap.size, 4, none⟩ = some (.slice ra rk rc) ∧ w'.cell? ⟨w.heap.size + 1, 0, none⟩ = some (.bool vs) ∧ w'.cell? ⟨w.heap.size + 1, 1, none⟩ = some (.slice vx vn vc) ∧ w'.cell? ⟨w.heap.size + 1, 2, none⟩ = some (.slice vy vm vd) ∧ w'.cell? ⟨w.heap.size + 1, 3, none⟩ = some (.slice vca vck vcc) ∧ w'.cell? ⟨w.heap.size + 1, 4, none⟩ = some (.slice vra vrk vrc)) (by kernel_rfl) ?_ (fun hHeld => ?_)
  · (refine ⟨?_, ?_, ?_, ?_, ?_, ?_, ?_, ?_, ?_, ?_⟩ <;> repeat (with_reducible first | assumption | refine kCd ?_))
  refine wpAnyH_take (i := 0) (v := ?_) rfl (by kernel_rfl) (by kernel_rfl) (by kernel_rfl) (fun _ _ _ h => h) (Or.inl ⟨by rfl, ?_⟩) (by assumption) ?_
  rotate_left
  (focus (intro w0 hSw; (try dsimp only at hSw); go_simp <;> with_reducible rfl))
  simp only [List.getElem_toArray, List.getElem_cons_zero, Act.put, List.setIfInBounds_toArray, List.set_cons_zero, List.set_cons_succ]
  refine wpAnyH_take (i := 2) (v := ?_) rfl (by kernel_rfl) (by kernel_rfl) (by kernel_rfl) (fun _ _ _ h => h) (Or.inl ⟨by rfl, ?_⟩) (by assumption) ?_
  rotate_left
  (focus (intro w0 hSw; (try dsimp only at hSw); go_simp <;> with_reducible rfl))
  simp only [List.getElem_toArray, List.getElem_cons_succ, List.getElem_cons_zero, Act.put, List.setIfInBounds_toArray, List.set_cons_zero, List.set_cons_succ]
  refine wpAnyH_ready (rs := [1]) (by kernel_rfl) (by simp) ?_
  refine AllReadyH.cons (o := _) rfl (fun K hK => ?_) ?_
  rotate_left
  exact AllReadyH.nil
  go_simp
  go_at_call 14
  with_reducible refine (C1.out _ (by repeat (with_reducible first | assumption | exact Below.refl _ _ | refine Below.drew ?_ | refine kBb (by assumption) ?_))).mono ?_
  rintro en w4 ⟨rfl, hb4⟩
  have Bw4 : Below w0.heap.size w0 w4 := (by repeat (with_reducible first | assumption | exact Below.refl _ _ | refine Below.drew ?_ | refine kBb (by assumption) ?_))
  (try go_wp2_with fail)
  refine hK.out _ _ ?_ (fun hH1 => ?_)
  · ((try dsimp only); (refine ⟨?_, ?_, ?_, ?_, ?_, ?_, ?_, ?_, ?_, ?_⟩ <;> repeat (with_reducible first | assumption | refine kCb Bw4 ?_)))
  clear hK K
  try simp only [Act.put, List.setIfInBounds_toArray, List.set_cons_zero, List.set_cons_succ]
  refine wpAnyH_ready (rs := [3]) (by kernel_rfl) (by simp) ?_
  refine AllReadyH.cons (o := _) rfl (fun K hK => ?_) ?_
  rotate_left
  exact AllReadyH.nil
  go_simp
  go_at_call 14
  with_reducible refine (C2.out _ (by repeat (with_reducible first | assumption | exact Below.refl _ _ | refine Below.drew ?_ | refine kBb (by assumption) ?_))).mono ?_
  rintro en w5 ⟨rfl, hb5⟩
  have Bw5 : Below w0.heap.size w0 w5 := (by repeat (with_reducible first | assumption | exact Below.refl _ _ | refine Below.drew ?_ | refine kBb (by assumption) ?_))
  (try go_wp2_with fail)
  refine hK.out _ _ ?_ (fun hH2 => ?_)
  · ((try dsimp only); (refine ⟨?_, ?_, ?_, ?_, ?_, ?_, ?_, ?_, ?_, ?_⟩ <;> repeat (with_reducible first | assumption | refine kCb Bw5 ?_)))
  clear hK K
  try simp only [Act.put, List.setIfInBounds_toArray, List.set_cons_zero, List.set_cons_succ]
  refine wpAnyH_ready (rs := [4]) (by kernel_rfl) (by simp) ?_
  refine AllReadyH.cons (o := _) rfl (fun K hK => ?_) ?_
  rotate_left
  exact AllReadyH.nil
  go_simp
  have Bw6 := below_alloc (Below.refl w5.heap.size w5) (.cells #[.int .i64 e1, .int .i64 e2] 32)
  have HEl : El (w5.alloc (.cells #[.int .i64 e1, .int .i64 e2] 32)) (some ⟨w5.heap.size, 0, none⟩) 2 (two e1 e2) := two_el
  have Bw7 : Below w0.heap.size w0 (w5.alloc (.cells #[.int .i64 e1, .int .i64 e2] 32)) := Bw5.trans (Bw6.mono Bw5.size)
  refine hK.out _ _ ?_ (fun hH3 => ?_)
  · ((try dsimp only); (refine ⟨?_, ?_, ?_, ?_, ?_, ?_, ?_, ?_, ?_, ?_⟩ <;> repeat (with_reducible first | assumption | refine kCb Bw7 ?_)))
  clear hK K
  try simp only [Act.put, List.setIfInBounds_toArray, List.set_cons_zero, List.set_cons_succ]
  refine wpAnyH_ready (rs := [5]) (by kernel_rfl) (by simp) ?_
  refine AllReadyH.cons (o := _) rfl (fun K hK => ?_) ?_
  rotate_left
  exact AllReadyH.nil
  go_simp
  go_at_call 58
  with_reducible refine (least_c (cap := 2) HEl (by decide)).mono ?_
  rintro en w8 ⟨rfl, rfl⟩
  (try go_wp2_with fail)
  refine hK.out _ _ ?_ (fun hH4 => ?_)
  · ((try dsimp only); (refine ⟨?_, ?_, ?_, ?_, ?_, ?_, ?_, ?_, ?_, ?_⟩ <;> repeat (with_reducible first | assumption | refine kCb Bw7 ?_)))
  clear hK K
  try simp only [Act.put, List.setIfInBounds_toArray, List.set_cons_zero, List.set_cons_succ]
  refine wpAnyH_take (i := 6) (v := ?_) rfl (by kernel_rfl) (by kernel_rfl) (by kernel_rfl) (fun _ _ _ h => h) (Or.inl ⟨by rfl, ?_⟩) (by assumption) ?_
  rotate_left
  (focus (intro w0 hSw; (try dsimp only at hSw); go_simp <;> with_reducible rfl))
  simp only [List.getElem_toArray, List.getElem_cons_succ, List.getElem_cons_zero, Act.put, List.setIfInBounds_toArray, List.set_cons_zero, List.set_cons_succ]
  refine wpAnyH_done (by kernel_rfl) ?_ _
  obtain ⟨k0, k1, k2, k3, k4, j0, j1, j2, j3, j4⟩ := hH4
  have HB8 := hid (HB0.out.trans (Bw7.mono HB0.out.size))
  generalize w5.alloc (.cells #[.int .i64 e1, .int .i64 e2] 32) = w9 at *
  clear hHeld hH1 hH2 hH3 hb4 hb5 Bw4 Bw5 Bw6 Bw7 HEl HB0 C1 C2 p0 p1 p2 p3 p4 r0 r1 r2 r3 r4 her
  by_cases h0 : er = 0
  case neg =>
    have hne : (er != 0) = true := by simp [h0]
    have HV := hid (show an1 = false ∧ an2 = er from by have := HA.out; rw [if_neg h0] at this; simpa using this)
    clear HA C3 C4 C5 h0
    go_wp2
    go_ret2
    refine ⟨?_, HB8.out⟩
    rw [HV.out.1, HV.out.2]; rfl
  subst h0
  have HV := hid (show an1 = (t1 && (t2 && t3)) ∧ an2 = 0 from by have := HA.out; rw [if_pos rfl] at this; simpa using this)
  clear HA
  go_wp2_with fail
  refine (C3.out trivial _ HB8.out).mono ?_
  rintro r w1 ⟨rfl, hb1⟩
  replace k3 := kCb hb1 k3; replace k4 := kCb hb1 k4; replace j3 := kCb hb1 j3; replace j4 := kCb hb1 j4
  have HB1 := hid (HB8.out.trans (hb1.mono HB8.out.size))
  clear hb1 HB8 C3 k0 k1 k2 j0 j1 j2
  cases t1
  · go_wp2
    go_ret2
    refine ⟨?_, HB1.out⟩
    rw [HV.out.1, HV.out.2]; rfl
  go_wp2_with fail
  refine (C4.out trivial _ HB1.out).mono ?_
  rintro r w2 ⟨rfl, hb2⟩
  replace k4 := kCb hb2 k4; replace j4 := kCb hb2 j4
  have HB2 := hid (HB1.out.trans (hb2.mono HB1.out.size))
  clear hb2 HB1 C4 k3 j3
  cases t2
  · go_wp2
    go_ret2
    refine ⟨?_, HB2.out⟩
    rw [HV.out.1, HV.out.2]; rfl
  go_wp2_with fail
  refine (C5.out trivial _ HB2.out).mono ?_
  rintro r w3 ⟨rfl, hb3⟩
  have HB3 := hid (HB2.out.trans (hb3.mono HB2.out.size))
  clear hb3 HB2 C5 k4 j4
  cases t3
  · go_wp2
    go_ret2
    refine ⟨?_, HB3.out⟩
    rw [HV.out.1, HV.out.2]; rfl
  · go_wp2
    go_ret2
    refine ⟨?_, HB3.out⟩
    rw [HV.out.1, HV.out.2]; rfl
end Go.Proofs.YtbmfcogfgdggkaaGreat
namespace Go.Proofs.YtbmfcogfgdggkaaGreat
open Go.RowKit

end Go.Proofs.YtbmfcogfgdggkaaGreat
namespace Go.Proofs.YtbmfcogfgdggkaaGreat
open Go.RowKit

theorem rLightK_c (K : Nat) (s : Bool) (x y : Option Addr) (n c m d : Nat) (w : World) :
    Calls Tryz.prog 34 #[.agg #[.bool s, .slice x n c, .slice y m d], .int .i64 K] w fun e w' => e = .returned (.bool (lg n m K)) ∧ Below w.heap.size w w' := by
  by_cases h1 : n ≤ K
  · have d1 : decide ((n : Int) ≤ (K : Int)) = true := by simp; omega
    by_cases h2 : m ≤ K
    · have d2 : decide ((m : Int) ≤ (K : Int)) = true := by simp; omega
      rw [show lg n m K = true by simp [lg, h1, h2]]
      go_enter Tryz.func34, Tryz.ntmps34
      go_wp2
      go_ret
      exact ⟨rfl, below_alloc (Below.refl _ _) _⟩
    · have d2 : decide ((m : Int) ≤ (K : Int)) = false := by simp; omega
      rw [show lg n m K = false by simp [lg, h2]]
      go_enter Tryz.func34, Tryz.ntmps34
      go_wp2
      go_ret
      exact ⟨rfl, below_alloc (Below.refl _ _) _⟩
  · have d1 : decide ((n : Int) ≤ (K : Int)) = false := by simp; omega
    rw [show lg n m K = false by simp [lg, h1]]
    go_enter Tryz.func34, Tryz.ntmps34
    go_wp2
    go_ret
    exact ⟨rfl, below_alloc (Below.refl _ _) _⟩

/-- A list of k terms, of k numbers, that can be read, whatever they are and however long. -/
def Tr (w : World) (ao : Option Addr) (k : Nat) (col : Nat → Int) (T : Nat → Nm) : Prop :=
  ∀ j, j < k → ∃ b o, ao = some ⟨b, o, none⟩ ∧ C4 w b (o + j * 4) (.int .i64 (col j)) (.bool (T j).s) (.slice (T j).x (T j).n (T j).c) (.slice (T j).y (T j).m (T j).d) ∧ Rw w (T j).x (T j).n (T j).c (T j).f (T j).y (T j).m (T j).d (T j).g
theorem Tr.below {w w' ao k col T} (h : Tr w ao k col T) (hb : Below w.heap.size w w') : Tr w' ao k col T := fun j hj => by
  obtain ⟨b, o, e, h1, h2⟩ := h j hj
  exact ⟨b, o, e, h1.below hb, h2.below hb⟩
/-- All numbers from number i on have at most K limbs. -/
def nlg (K : Nat) (X : Nat → Nm) : Nat → Nat → Bool
  | 0, _ => true
  | r + 1, i => lg (X i).n (X i).m K && nlg K X r (i + 1)
theorem nlg_all {K : Nat} {X : Nat → Nm} : ∀ {r i : Nat}, nlg K X r i = true → ∀ j, i ≤ j → j < i + r → (X j).n ≤ K ∧ (X j).m ≤ K := by
  intro r
  induction r with
  | zero => intro i _ j h1 h2; omega
  | succ r ih =>
    intro i h j hj hj2
    simp only [nlg, lg, Bool.and_eq_true, decide_eq_true_eq] at h
    by_cases e : j = i
    · subst e; exact h.1
    · exact ih h.2 j (by omega) (by omega)
theorem Tr.tl {w ao k col T} {K : Nat} (h : Tr w ao k col T) (hl : nlg K T k 0 = true) (hK : K ≤ 65536) : Tl w ao k col T := fun j hj => by
  obtain ⟨b, o, e, h1, h2⟩ := h j hj
  obtain ⟨h3, h4⟩ := nlg_all hl j (by omega) (by omega)
  exact ⟨b, o, e, h1, h2, by omega, by omega⟩
end Go.Proofs.YtbmfcogfgdggkaaGreat

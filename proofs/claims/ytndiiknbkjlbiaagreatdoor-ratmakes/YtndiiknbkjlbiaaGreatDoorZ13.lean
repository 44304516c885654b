/-
  Walks of rat.Make and of the document's DocMake, whatever they are handed. The walk of RatMakes.
-/
import Derived.Test.YtndiiknbkjlbiaaGreatDoorZ12
namespace Go.Proofs.YtndiiknbkjlbiaaGreatDoor
open Go.RowKit

theorem mk_sgn {r s : Bool} {k : Nat} (h : r = (s && decide (0 < k))) : r = true → 0 < k := fun e => by
  rw [e] at h
  have h2 : s = true ∧ 0 < k := by simpa using h.symm
  exact h2.2
set_option maxRecDepth 100000 in
set_option maxHeartbeats 4000000 in
theorem docMakeOk_c {w : World} {sa : Bool} {xa : Option Addr} {na ca : Nat} {fa : Nat → Int} {sb : Bool} {xb : Option Addr} {nb cb : Nat} {fb : Nat → Int} {u v : Int} (ha : Wn w sa xa na ca fa u) (hb : Wn w sb xb nb cb fb v) (hv : v ≠ 0) (hna : na ≤ 100) (hnb1 : nb ≤ 100) :
    Calls Tryz.prog 28 #[.agg #[.bool sa, .slice xa na ca], .agg #[.bool sb, .slice xb nb cb]] w fun e w' => RatTup 2000 w w' e ((u : Rat) / (v : Rat)) := by
  have HA0 := hid ha; have HB0 := hid hb
  have hvA : 0 < v.natAbs := by omega
  have hnb : 0 < nb := hb.mag.pos (by omega)
  clear ha hb
  have hn0 : ((nb : Int) == 0) = false := by simp; omega
  go_enter Tryz.func28, Tryz.ntmps28
  go_wp2_with fail
  refine (rwForm_c sa xa na ca fa _ (by omega) (((HA0.out.alloc _).alloc _).alloc _).rd).mono ?_
  rintro e w1 ⟨rfl, hb⟩
  rw [HA0.out.wf]
  obtain ⟨ba, bb, ob, hw⟩ := mk_boxes hb
  have BA1 := hid ba; have BB1 := hid bb; have OB1 := hid ob; have HW1 := hid hw; have HA1 := hid (HA0.out.below hw); have HB1 := hid (HB0.out.below hw)
  clear ba bb ob hw hb HA0 HB0
  obtain ⟨zb, b0, b1⟩ := BB1.out
  go_wp2_with fail
  refine (rwForm_c sb xb nb cb fb _ (by omega) HB1.out.rd).mono ?_
  rintro e w2 ⟨rfl, hb⟩
  rw [HB1.out.wf]
  clear zb b0 b1
  have BA2 := hid (BA1.out.below hb); have BB2 := hid (BB1.out.below hb); have OB2 := hid (OB1.out.below hb); have HA2 := hid (HA1.out.below hb); have HB2 := hid (HB1.out.below hb); have HW2 := hid (HW1.out.trans (hb.mono HW1.out.size))
  clear BA1 BB1 OB1 HA1 HB1 HW1 hb
  obtain ⟨za, a0, a1⟩ := BA2.out
  obtain ⟨zb, b0, b1⟩ := BB2.out
  obtain ⟨hz, z0, z1, z2, zf⟩ := OB2.out
  have hO2 := OB2.out
  have C1 : Hid (∀ W, Below w2.heap.size w2 W → Calls Tryz.prog 62 #[.slice xa na ca] W fun e w' => ∃ z k c', e = .returned (.slice z k c') ∧ Below W.heap.size W w' ∧ Hid (k ≤ 2 * na ∧ Dn w' z k (dig fa) u.natAbs)) := fun W hW => fromDn_c (HA2.out.below hW) (by omega)
  have C2 : Hid (∀ W, Below w2.heap.size w2 W → Calls Tryz.prog 62 #[.slice xb nb cb] W fun e w' => ∃ z k c', e = .returned (.slice z k c') ∧ Below W.heap.size W w' ∧ Hid (k ≤ 2 * nb ∧ Dn w' z k (dig fb) v.natAbs)) := fun W hW => fromDn_c (HB2.out.below hW) (by omega)
  have C3 : Hid (∀ (W : World) (z : Option Addr) (k cap : Nat), k ≤ 200 → Calls Tryz.prog 69 #[.bool (!(sa == sb)), .slice z k cap] W fun e w' => ∃ r, e = .returned (.agg #[.bool r, .slice z k cap]) ∧ Below W.heap.size W w' ∧ Hid (r = ((!(sa == sb)) && decide (0 < k)))) := fun W z k cap hk => (zMk_c (!(sa == sb)) z k cap W (by omega)).mono (fun e w' ⟨r, h1, h2, h3⟩ => ⟨r, h1, h3, h2⟩)
  have C4 : Hid (∀ (W : World) (r : Bool) (z : Option Addr) (k cap : Nat) (y : Option Addr) (m e : Nat), k ≤ 200 → m ≤ 200 → (r = true → 0 < k) → Dn W z k (dig fa) u.natAbs → Dn W y m (dig fb) v.natAbs → Calls Tryz.prog 73 #[.agg #[.bool r, .slice z k cap], .slice y m e] W fun e w' => ∃ r' z k c' z2 k2 c2, e = .returned (.agg #[.bool r', .slice z k c', .slice z2 k2 c2]) ∧ Below W.heap.size W w' ∧ Hid (k ≤ 202 ∧ k2 ≤ 202 ∧ r' = (r && decide (0 < k)) ∧ (∃ d', Dn w' z k d' (u.natAbs / u.natAbs.gcd v.natAbs)) ∧ ∃ d2, Dn w' z2 k2 d2 (v.natAbs / u.natAbs.gcd v.natAbs))) := fun W r z k cap y m e hk hm hs h1 h2 => (mkQ_c h1 h2 hs (by omega) (by omega) hvA).mono (fun e w' ⟨r', z, k, c', d', z2, k2, c2, d2, h1, h2, h3, h4, h5, h6, h7⟩ => ⟨r', z, k, c', z2, k2, c2, h1, h2, by omega, by omega, h5, ⟨d', h6⟩, d2, h7⟩)
  have C5 : Hid (∀ (W : World) (r : Bool) (z : Option Addr) (k cap : Nat) (y : Option Addr) (m e : Nat), k ≤ 202 → m ≤ 202 → (∃ d', Dn W z k d' (u.natAbs / u.natAbs.gcd v.natAbs)) → (∃ d2, Dn W y m d2 (v.natAbs / u.natAbs.gcd v.natAbs)) → Calls Tryz.prog 41 #[.agg #[.bool r, .slice z k cap, .slice y m e]] W fun en w' => ∃ z k' c' f z2 k2 c2 f2, en = .returned (.agg #[.bool r, .slice z k' c', .slice z2 k2 c2]) ∧ Below W.heap.size W w' ∧ Hid (k' ≤ k ∧ k2 ≤ m ∧ Wn w' false z k' c' f ((u.natAbs / u.natAbs.gcd v.natAbs : Nat) : Int) ∧ Wn w' false z2 k2 c2 f2 ((v.natAbs / u.natAbs.gcd v.natAbs : Nat) : Int) ∧ Tg w' z ∧ Tg w' z2)) := fun W r z k cap y m e hk hm ⟨_, h1⟩ ⟨_, h2⟩ => qTo_c h1 h2 (by omega) (by omega)
  go_wp2_with fail
  go_region_held3 (fun w' => w'.cell? ⟨w.heap.size, 0, none⟩ = some (.bool sa) ∧ w'.cell? ⟨w.heap.size, 1, none⟩ = some (.slice xa na ca) ∧ w'.cell? ⟨w.heap.size + 1, 0, none⟩ = some (.bool sb) ∧ w'.cell? ⟨w.heap.size + 1, 1, none⟩ = some (.slice xb nb cb) ∧ (w'.cell? ⟨w.heap.size + 1 + 1, 0, none⟩).isSome = true ∧ (w'.cell? ⟨w.heap.size + 1 + 1, 1, none⟩).isSome = true ∧ (w'.cell? ⟨w.heap.size + 1 + 1, 2, none⟩).isSome = true ∧ w'.frozen? ⟨w.heap.size + 1 + 1, 0, none⟩ = false ∧ w'.frozen? ⟨w.heap.size + 1 + 1, 1, none⟩ = false ∧ w'.frozen? ⟨w.heap.size + 1 + 1, 2, none⟩ = false)
    (refine ⟨?_, ?_, ?_, ?_, ?_, ?_, ?_, ?_, ?_, ?_⟩ <;> repeat (with_reducible first | assumption | exact zf _ | exact kI0 z0 | exact kI0 z1 | exact kI0 z2 | exact tf _ | exact kI0 t0 | exact kI0 t1 | exact kI0 t2 | exact uf _ | exact kI0 u0 | exact kI0 u1 | exact kI0 u2 | exact vf _ | exact kI0 v0 | exact kI0 v1 | exact kI0 v2 | exact sf _ | exact kI0 s0 | exact kI0 s1 | exact kI0 s2 | exact rf _ | exact kI0 r0 | exact kI0 r1 | exact kI0 r2 | refine kCd ?_ | refine kId ?_ | refine kFd ?_ | refine kCs (by simp only [ne_eq]; omega) ?_ | refine kIs ?_ | refine kFs ?_ | refine kCb (by assumption) ?_ | refine kIb (by assumption) ?_))
    (first
      | (go_at_call 62; with_reducible refine (C1.out _ (by repeat (with_reducible first | assumption | exact Below.refl _ _ | refine Below.drew ?_ | refine kBa ?_ | refine kBb (by assumption) ?_))).mono ?_; rintro e w5 ⟨zp, kp, cp, rfl, hb5, HP⟩; have hkp : kp ≤ 200 := (by have := HP.out.1; omega); have TU : Ob w5 (w.heap.size + 1 + 1) := (by repeat (with_reducible first | exact OB | exact hO2 | exact TU | exact TV | exact TW | exact TX | exact TY | refine Ob.drew ?_ | refine kOb (by assumption) ?_)); obtain ⟨_, t0, t1, t2, tf⟩ := id TU)
      | (go_at_call 69; with_reducible refine (C3.out _ zp kp cp hkp).mono ?_; rintro e w6 ⟨r, rfl, hb6, HR⟩; have hr0 := mk_sgn HR.out; have TV : Ob w6 (w.heap.size + 1 + 1) := (by repeat (with_reducible first | exact OB | exact hO2 | exact TU | exact TV | exact TW | exact TX | exact TY | refine Ob.drew ?_ | refine kOb (by assumption) ?_)); obtain ⟨_, u0, u1, u2, uf⟩ := id TV)
      | (go_at_call 62; with_reducible refine (C2.out _ (by repeat (with_reducible first | assumption | exact Below.refl _ _ | refine Below.drew ?_ | refine kBa ?_ | refine kBb (by assumption) ?_))).mono ?_; rintro e w7 ⟨zq, kq, cq, rfl, hb7, HQ⟩; have hkq : kq ≤ 200 := (by have := HQ.out.1; omega); have TW : Ob w7 (w.heap.size + 1 + 1) := (by repeat (with_reducible first | exact OB | exact hO2 | exact TU | exact TV | exact TW | exact TX | exact TY | refine Ob.drew ?_ | refine kOb (by assumption) ?_)); obtain ⟨_, v0, v1, v2, vf⟩ := id TW)
      | (go_at_call 73; with_reducible refine (C4.out _ r zp kp cp zq kq cq hkp hkq hr0 ((HP.out.2.below hb6).below hb7) HQ.out.2).mono ?_; rintro e w8 ⟨r', zr, kr, cr, zs, ks, cs, rfl, hb8, HM⟩; have TX : Ob w8 (w.heap.size + 1 + 1) := (by repeat (with_reducible first | exact OB | exact hO2 | exact TU | exact TV | exact TW | exact TX | exact TY | refine Ob.drew ?_ | refine kOb (by assumption) ?_)); obtain ⟨_, s0, s1, s2, sf⟩ := id TX)
      | (go_at_call 41; with_reducible refine (C5.out _ r' zr kr cr zs ks cs HM.out.1 HM.out.2.1 HM.out.2.2.2.1 HM.out.2.2.2.2).mono ?_; rintro e w9 ⟨zn, kn, cn, fn, zd, kd, cd, fd, rfl, hb9, HT⟩; have TY : Ob w9 (w.heap.size + 1 + 1) := (by repeat (with_reducible first | exact OB | exact hO2 | exact TU | exact TV | exact TW | exact TX | exact TY | refine Ob.drew ?_ | refine kOb (by assumption) ?_)); obtain ⟨_, r0, r1, r2, rf⟩ := id TY))
  have hb : Below w2.heap.size w2 w9 := (by repeat (with_reducible first | assumption | exact Below.refl _ _ | refine Below.drew ?_ | refine kBa ?_ | refine kBb (by assumption) ?_))
  have hT := HT.out
  obtain ⟨e1, e2⟩ := make_made HA2.out.sgn HB2.out.sgn hvA
  have hM := HM.out
  have hRR : r' = ((sa != sb) && decide (0 < kn)) := by
    rw [hM.2.2.1, HR.out]
    obtain ⟨dq, hdq⟩ := hM.2.2.2.1
    rcases Nat.eq_zero_or_pos (u.natAbs / u.natAbs.gcd v.natAbs) with hq | hq
    · have k1 : kr = 0 := by
        rcases Nat.eq_zero_or_pos kr with h | h
        · exact h
        · have := hdq.pos' h; omega
      have k2 : kn = 0 := by have := hT.1; omega
      simp [k1, k2]
    · have k1 : 0 < kn := hT.2.2.1.pos (by omega)
      have k2 : 0 < kr := hdq.pos hq
      have k3 : 0 < kp := HP.out.2.pos (by
        rcases Nat.eq_zero_or_pos u.natAbs with h | h
        · rw [h, Nat.zero_div] at hq; omega
        · exact h)
      simp [k1, k2, k3, bne]
  go_wp2
  refine bodyPost_ret (v := .tuple #[.agg #[.bool r', .slice zn kn cn, .slice zd kd cd], .int .i64 0]) (by simp [results, Tryz.results28, go_sem, r0, r1, r2]) rfl ⟨r', zn, kn, cn, fn, zd, kd, cd, fd, rfl, below_st (HW2.out.trans (hb.mono HW2.out.size)) (by omega), ⟨?_, ?_, by omega, by omega⟩⟩
  · rw [e1]; exact TY.wn (hT.2.2.1.resign hRR)
  · rw [e2]; exact TY.wn hT.2.2.2.1

set_option maxRecDepth 100000 in
set_option maxHeartbeats 4000000 in
theorem rMakeErr_c {w : World} {sa : Bool} {xa : Option Addr} {na ca : Nat} {fa : Nat → Int} {sb : Bool} {xb : Option Addr} {nb cb : Nat} {fb : Nat → Int} (ha : Rd .u64 w xa na fa) (hb : Rd .u64 w xb nb fb) (hna : na ≤ 1000) (hnb : nb ≤ 1000) (hp : (wfB sa fa na && wfB sb fb nb) = false) :
    Calls Tryz.prog 26 #[.agg #[.bool sa, .slice xa na ca], .agg #[.bool sb, .slice xb nb cb]] w fun en w' => en = .returned (.tuple #[.agg #[.bool false, .slice none 0 0, .slice none 0 0], .int .i64 3]) ∧ Below w.heap.size w w' := by
  have HA0 := hid ha; have HB0 := hid hb
  clear ha hb
  go_enter Tryz.func26, Tryz.ntmps26
  go_wp2_with fail
  refine (wForm_c sa xa na ca fa _ (by omega) (((HA0.out.alloc _).alloc _).alloc _)).mono ?_
  rintro e w1 ⟨rfl, hb⟩
  obtain ⟨ba, bb, ob, hw⟩ := mk_boxes hb
  have BB1 := hid bb; have OB1 := hid ob; have HW1 := hid hw
  clear ba bb ob hw hb
  cases h1 : wfB sa fa na
  · clear hp
    have HB := hid HW1.out
    obtain ⟨hz, z0, z1, z2, zf⟩ := OB1.out
    go_wp2
    exact bodyPost_ret (v := .tuple #[.agg #[.bool false, .slice none 0 0, .slice none 0 0], .int .i64 3]) (by simp [results, Tryz.results26, go_sem, z0, z1, z2]) rfl ⟨rfl, below_st HB.out (by omega)⟩
  have h2 : wfB sb fb nb = false := by rw [h1] at hp; simpa using hp
  clear hp h1
  obtain ⟨zb, b0, b1⟩ := BB1.out
  go_wp2_with fail
  refine (wForm_c sb xb nb cb fb _ (by omega) (HB0.out.below HW1.out (Nat.le_refl _))).mono ?_
  rintro e w2 ⟨rfl, hb⟩
  rw [h2]
  have HB := hid (HW1.out.trans (hb.mono HW1.out.size))
  obtain ⟨hz, z0, z1, z2, zf⟩ := OB1.out.below hb
  clear hb zb b0 b1 h2
  go_wp2
  exact bodyPost_ret (v := .tuple #[.agg #[.bool false, .slice none 0 0, .slice none 0 0], .int .i64 3]) (by simp [results, Tryz.results26, go_sem, z0, z1, z2]) rfl ⟨rfl, below_st HB.out (by omega)⟩

set_option maxRecDepth 100000 in
set_option maxHeartbeats 4000000 in
theorem rMakeZero_c {w : World} {sa : Bool} {xa : Option Addr} {na ca : Nat} {fa : Nat → Int} {sb : Bool} {xb : Option Addr} {nb cb : Nat} {fb : Nat → Int} (ha : Rd .u64 w xa na fa) (hb : Rd .u64 w xb nb fb) (hna : na ≤ 1000) (hnb : nb ≤ 1000) (hpa : wfB sa fa na = true) (hpb : wfB sb fb nb = true) (hn0 : nb = 0) :
    Calls Tryz.prog 26 #[.agg #[.bool sa, .slice xa na ca], .agg #[.bool sb, .slice xb nb cb]] w fun en w' => en = .returned (.tuple #[.agg #[.bool false, .slice none 0 0, .slice none 0 0], .int .i64 4]) ∧ Below w.heap.size w w' := by
  have HA0 := hid ha; have HB0 := hid hb
  clear ha hb
  have hnd : ((nb : Int) == 0) = true := by simp; omega
  clear hn0
  go_enter Tryz.func26, Tryz.ntmps26
  go_wp2_with fail
  refine (wForm_c sa xa na ca fa _ (by omega) (((HA0.out.alloc _).alloc _).alloc _)).mono ?_
  rintro e w1 ⟨rfl, hb⟩
  obtain ⟨ba, bb, ob, hw⟩ := mk_boxes hb
  have BB1 := hid bb; have OB1 := hid ob; have HW1 := hid hw
  clear ba bb ob hw hb
  rw [hpa]
  obtain ⟨zb, b0, b1⟩ := BB1.out
  go_wp2_with fail
  refine (wForm_c sb xb nb cb fb _ (by omega) (HB0.out.below HW1.out (Nat.le_refl _))).mono ?_
  rintro e w2 ⟨rfl, hb⟩
  rw [hpb]
  clear zb b0 b1
  have HB := hid (HW1.out.trans (hb.mono HW1.out.size))
  obtain ⟨zb, b0, b1⟩ := BB1.out.below hb
  obtain ⟨hz, z0, z1, z2, zf⟩ := OB1.out.below hb
  clear hb
  go_wp2
  exact bodyPost_ret (v := .tuple #[.agg #[.bool false, .slice none 0 0, .slice none 0 0], .int .i64 4]) (by simp [results, Tryz.results26, go_sem, z0, z1, z2]) rfl ⟨rfl, below_st HB.out (by omega)⟩

set_option maxRecDepth 100000 in
set_option maxHeartbeats 4000000 in
theorem docMakeErr_c {w : World} {sa : Bool} {xa : Option Addr} {na ca : Nat} {fa : Nat → Int} {sb : Bool} {xb : Option Addr} {nb cb : Nat} {fb : Nat → Int} (ha : Rd .u64 w xa na fa) (hb : Rd .u64 w xb nb fb) (hna : na ≤ 1000) (hnb : nb ≤ 1000) (hp : (wfB sa fa na && wfB sb fb nb) = false) :
    Calls Tryz.prog 28 #[.agg #[.bool sa, .slice xa na ca], .agg #[.bool sb, .slice xb nb cb]] w fun en w' => en = .returned (.tuple #[.agg #[.bool false, .slice none 0 0, .slice none 0 0], .int .i64 3]) ∧ Below w.heap.size w w' := by
  have HA0 := hid ha; have HB0 := hid hb
  clear ha hb
  go_enter Tryz.func28, Tryz.ntmps28
  go_wp2_with fail
  refine (rwForm_c sa xa na ca fa _ (by omega) (((HA0.out.alloc _).alloc _).alloc _)).mono ?_
  rintro e w1 ⟨rfl, hb⟩
  obtain ⟨ba, bb, ob, hw⟩ := mk_boxes hb
  have BB1 := hid bb; have OB1 := hid ob; have HW1 := hid hw
  clear ba bb ob hw hb
  cases h1 : wfB sa fa na
  · clear hp
    have HB := hid HW1.out
    obtain ⟨hz, z0, z1, z2, zf⟩ := OB1.out
    go_wp2
    exact bodyPost_ret (v := .tuple #[.agg #[.bool false, .slice none 0 0, .slice none 0 0], .int .i64 3]) (by simp [results, Tryz.results28, go_sem, z0, z1, z2]) rfl ⟨rfl, below_st HB.out (by omega)⟩
  have h2 : wfB sb fb nb = false := by rw [h1] at hp; simpa using hp
  clear hp h1
  obtain ⟨zb, b0, b1⟩ := BB1.out
  go_wp2_with fail
  refine (rwForm_c sb xb nb cb fb _ (by omega) (HB0.out.below HW1.out (Nat.le_refl _))).mono ?_
  rintro e w2 ⟨rfl, hb⟩
  rw [h2]
  have HB := hid (HW1.out.trans (hb.mono HW1.out.size))
  obtain ⟨hz, z0, z1, z2, zf⟩ := OB1.out.below hb
  clear hb zb b0 b1 h2
  go_wp2
  exact bodyPost_ret (v := .tuple #[.agg #[.bool false, .slice none 0 0, .slice none 0 0], .int .i64 3]) (by simp [results, Tryz.results28, go_sem, z0, z1, z2]) rfl ⟨rfl, below_st HB.out (by omega)⟩

set_option maxRecDepth 100000 in
set_option maxHeartbeats 4000000 in
theorem docMakeZero_c {w : World} {sa : Bool} {xa : Option Addr} {na ca : Nat} {fa : Nat → Int} {sb : Bool} {xb : Option Addr} {nb cb : Nat} {fb : Nat → Int} (ha : Rd .u64 w xa na fa) (hb : Rd .u64 w xb nb fb) (hna : na ≤ 1000) (hnb : nb ≤ 1000) (hpa : wfB sa fa na = true) (hpb : wfB sb fb nb = true) (hn0 : nb = 0) :
    Calls Tryz.prog 28 #[.agg #[.bool sa, .slice xa na ca], .agg #[.bool sb, .slice xb nb cb]] w fun en w' => en = .returned (.tuple #[.agg #[.bool false, .slice none 0 0, .slice none 0 0], .int .i64 4]) ∧ Below w.heap.size w w' := by
  have HA0 := hid ha; have HB0 := hid hb
  clear ha hb
  have hnd : ((nb : Int) == 0) = true := by simp; omega
  clear hn0
  go_enter Tryz.func28, Tryz.ntmps28
  go_wp2_with fail
  refine (rwForm_c sa xa na ca fa _ (by omega) (((HA0.out.alloc _).alloc _).alloc _)).mono ?_
  rintro e w1 ⟨rfl, hb⟩
  obtain ⟨ba, bb, ob, hw⟩ := mk_boxes hb
  have BB1 := hid bb; have OB1 := hid ob; have HW1 := hid hw
  clear ba bb ob hw hb
  rw [hpa]
  obtain ⟨zb, b0, b1⟩ := BB1.out
  go_wp2_with fail
  refine (rwForm_c sb xb nb cb fb _ (by omega) (HB0.out.below HW1.out (Nat.le_refl _))).mono ?_
  rintro e w2 ⟨rfl, hb⟩
  rw [hpb]
  clear zb b0 b1
  have HB := hid (HW1.out.trans (hb.mono HW1.out.size))
  obtain ⟨zb, b0, b1⟩ := BB1.out.below hb
  obtain ⟨hz, z0, z1, z2, zf⟩ := OB1.out.below hb
  clear hb
  go_wp2
  exact bodyPost_ret (v := .tuple #[.agg #[.bool false, .slice none 0 0, .slice none 0 0], .int .i64 4]) (by simp [results, Tryz.results28, go_sem, z0, z1, z2]) rfl ⟨rfl, below_st HB.out (by omega)⟩

theorem rMake_g {w : World} {sa : Bool} {xa : Option Addr} {na ca : Nat} {fa : Nat → Int} {sb : Bool} {xb : Option Addr} {nb cb : Nat} {fb : Nat → Int} (ha : Rd .u64 w xa na fa) (la : Lm fa na) (pa : na ≤ ca ∧ ca ≤ 9223372036854775807) (oa : xa = none → na = 0 ∧ ca = 0) (hb : Rd .u64 w xb nb fb) (lb : Lm fb nb) (pb : nb ≤ cb ∧ cb ≤ 9223372036854775807) (ob : xb = none → nb = 0 ∧ cb = 0) (hna : na ≤ 100) (hnb : nb ≤ 100) :
    Calls Tryz.prog 26 #[.agg #[.bool sa, .slice xa na ca], .agg #[.bool sb, .slice xb nb cb]] w fun en w' => ∃ s x n c f y m d g er, en = .returned (.tuple #[.agg #[.bool s, .slice x n c, .slice y m d], .int .i64 er]) ∧ Below w.heap.size w w' ∧ OQ (wfB sa fa na && wfB sb fb nb) 3 (wv sa fa na : Int) (wv sb fb nb : Int) w' s x n c f y m d g er := by
  cases hp : (wfB sa fa na && wfB sb fb nb)
  · exact (rMakeErr_c ha hb (by omega) (by omega) hp).mono (fun _ _ ⟨k1, k2⟩ => ⟨false, none, 0, 0, fun _ => 0, none, 0, 0, fun _ => 0, 3, k1, k2, .inl ⟨rfl, rfl, rfl, rfl, rfl⟩⟩)
  · have hpp : wfB sa fa na = true ∧ wfB sb fb nb = true := by simpa using hp
    have wa : Wn w sa xa na ca fa (wv sa fa na) := ⟨ha, la, hpp.1, pa, oa, rfl⟩
    have wb : Wn w sb xb nb cb fb (wv sb fb nb) := ⟨hb, lb, hpp.2, pb, ob, rfl⟩
    by_cases hz : nb = 0
    · exact (rMakeZero_c ha hb (by omega) (by omega) hpp.1 hpp.2 hz).mono (fun _ _ ⟨k1, k2⟩ => ⟨false, none, 0, 0, fun _ => 0, none, 0, 0, fun _ => 0, 4, k1, k2, .inr (.inl ⟨rfl, ⟨rfl, by rw [Rat.num_intCast, hz]; cases sb <;> rfl⟩, rfl, rfl, rfl, rfl⟩)⟩)
    · have hv : wv sb fb nb ≠ 0 := by
        have h1 := vf_pos lb wb.fm (by omega)
        cases sb
        · rw [wv_false]; omega
        · rw [wv_true]; omega
      exact (rMake_n wa wb (L := 100) hv (by omega) (by omega) (by omega)).mono (fun _ _ ⟨s, x, n, c, f, y, m, d, g, k1, k2, k3⟩ => ⟨s, x, n, c, f, y, m, d, g, 0, k1, k2, .inr (.inr ⟨rfl, fun h => hv (by have := h.2; rwa [Rat.num_intCast] at this), rfl, k3.mono (by omega)⟩)⟩)

theorem docMake_g {w : World} {sa : Bool} {xa : Option Addr} {na ca : Nat} {fa : Nat → Int} {sb : Bool} {xb : Option Addr} {nb cb : Nat} {fb : Nat → Int} (ha : Rd .u64 w xa na fa) (la : Lm fa na) (pa : na ≤ ca ∧ ca ≤ 9223372036854775807) (oa : xa = none → na = 0 ∧ ca = 0) (hb : Rd .u64 w xb nb fb) (lb : Lm fb nb) (pb : nb ≤ cb ∧ cb ≤ 9223372036854775807) (ob : xb = none → nb = 0 ∧ cb = 0) (hna : na ≤ 100) (hnb : nb ≤ 100) :
    Calls Tryz.prog 28 #[.agg #[.bool sa, .slice xa na ca], .agg #[.bool sb, .slice xb nb cb]] w fun en w' => ∃ s x n c f y m d g er, en = .returned (.tuple #[.agg #[.bool s, .slice x n c, .slice y m d], .int .i64 er]) ∧ Below w.heap.size w w' ∧ OQ (wfB sa fa na && wfB sb fb nb) 3 (wv sa fa na : Int) (wv sb fb nb : Int) w' s x n c f y m d g er := by
  cases hp : (wfB sa fa na && wfB sb fb nb)
  · exact (docMakeErr_c ha hb (by omega) (by omega) hp).mono (fun _ _ ⟨k1, k2⟩ => ⟨false, none, 0, 0, fun _ => 0, none, 0, 0, fun _ => 0, 3, k1, k2, .inl ⟨rfl, rfl, rfl, rfl, rfl⟩⟩)
  · have hpp : wfB sa fa na = true ∧ wfB sb fb nb = true := by simpa using hp
    have wa : Wn w sa xa na ca fa (wv sa fa na) := ⟨ha, la, hpp.1, pa, oa, rfl⟩
    have wb : Wn w sb xb nb cb fb (wv sb fb nb) := ⟨hb, lb, hpp.2, pb, ob, rfl⟩
    by_cases hz : nb = 0
    · exact (docMakeZero_c ha hb (by omega) (by omega) hpp.1 hpp.2 hz).mono (fun _ _ ⟨k1, k2⟩ => ⟨false, none, 0, 0, fun _ => 0, none, 0, 0, fun _ => 0, 4, k1, k2, .inr (.inl ⟨rfl, ⟨rfl, by rw [Rat.num_intCast, hz]; cases sb <;> rfl⟩, rfl, rfl, rfl, rfl⟩)⟩)
    · have hv : wv sb fb nb ≠ 0 := by
        have h1 := vf_pos lb wb.fm (by omega)
        cases sb
        · rw [wv_false]; omega
        · rw [wv_true]; omega
      exact (docMakeOk_c wa wb hv (by omega) (by omega)).mono (fun _ _ ⟨s, x, n, c, f, y, m, d, g, k1, k2, k3⟩ => ⟨s, x, n, c, f, y, m, d, g, 0, k1, k2, .inr (.inr ⟨rfl, fun h => hv (by have := h.2; rwa [Rat.num_intCast] at this), rfl, k3.mono (by omega)⟩)⟩)
end Go.Proofs.YtndiiknbkjlbiaaGreatDoor
namespace Go.Proofs.YtndiiknbkjlbiaaGreatDoor
open Go.RowKit

theorem kYa {w : World} {x : Option Addr} {n : Nat} {f : Nat → Int} {o : Obj} (h : Rd .u64 w x n f) : Rd .u64 (w.alloc o) x n f := h.alloc o
theorem kYb {w w' : World} {x : Option Addr} {n : Nat} {f : Nat → Int} (hb : Below w.heap.size w w') (h : Rd .u64 w x n f) : Rd .u64 w' x n f := h.below hb (Nat.le_refl _)
theorem kYd {w : World} {x : Option Addr} {n : Nat} {f : Nat → Int} (h : Rd .u64 w x n f) : Rd .u64 w.drew x n f := h

set_option maxRecDepth 100000 in
set_option maxHeartbeats 8000000 in
theorem ratMakes_c (sa : Bool) (ao : Option Addr) (n ca : Nat) (f : Nat → Int) (sb : Bool) (bo : Option Addr) (m cb : Nat) (g : Nat → Int) (w : World) (hn : n ≤ ca ∧ ca ≤ 9223372036854775807) (hr : Rd .u64 w ao n f) (hf : Lm f n) (na : ao = none → n = 0 ∧ ca = 0) (hm : m ≤ cb ∧ cb ≤ 9223372036854775807) (hs : Rd .u64 w bo m g) (hg : Lm g m) (nb : bo = none → m = 0 ∧ cb = 0) (htab : Tab w) :
    Calls Tryz.prog 5 #[.agg #[.bool sa, .slice ao n ca], .agg #[.bool sb, .slice bo m cb]] w fun e w' => e = .returned (.bool true) ∧ Below w.heap.size w w' := by
  have HR := hid hr; have HS := hid hs; have HF := hid hf; have HG := hid hg; have NA := hid na; have NB := hid nb; have HTab := hid htab
  clear hr hs hf hg na nb htab
  go_enter Tryz.func5, Tryz.ntmps5
  go_wp2_with fail
  refine (rAwake_c _ (HTab.out.below (below_alloc (below_alloc (Below.refl w.heap.size w) _) _) HTab.out.lt)).mono ?_
  rintro e w1 ⟨rfl, hb⟩
  obtain ⟨⟨hz, x0, x1, y0, y1⟩, zf, hw⟩ := boxes2 hb
  have BA1 : Hid (Bx w1 w.heap.size sa ao n ca) := ⟨by omega, x0, x1⟩
  have BB1 : Hid (Bx w1 (w.heap.size + 1) sb bo m cb) := ⟨by omega, y0, y1⟩
  have HW1 := hid hw
  clear hb hw zf
  by_cases hl : 30 < n
  · have d1 : decide ((30 : Int) < (n : Int)) = true := by simp; omega
    go_wp2
    go_ret
    exact ⟨rfl, HW1.out⟩
  have d1 : decide ((30 : Int) < (n : Int)) = false := by simp; omega
  by_cases hl2 : 30 < m
  · have d2 : decide ((30 : Int) < (m : Int)) = true := by simp; omega
    go_wp2
    go_ret
    exact ⟨rfl, HW1.out⟩
  have d2 : decide ((30 : Int) < (m : Int)) = false := by simp; omega
  have HRa := hid (HR.out.below HW1.out (Nat.le_refl _)); have HSb := hid (HS.out.below HW1.out (Nat.le_refl _))
  have CT1 : Hid (∀ W, Below w1.heap.size w1 W → Calls Tryz.prog 27 #[.agg #[.bool sa, .slice ao n ca]] W fun e w' => ∃ x c, e = .returned (.agg #[.bool sa, .slice x n c]) ∧ Below W.heap.size W w' ∧ Hid (Rd .u64 w' x n f ∧ (n ≤ c ∧ c ≤ 9223372036854775807) ∧ (x = none → n = 0 ∧ c = 0))) := fun W hW =>
    (wTwin_c sa ao n ca f W (by omega) (HRa.out.below hW (Nat.le_refl _)) NA.out).mono (fun e w' ⟨x, c, h1, h2, h3⟩ => ⟨x, c, h1, h2, h3.slice.2.2.2.1, ⟨h3.slice.1, h3.slice.2.1⟩, h3.slice.2.2.1⟩)
  have CT2 : Hid (∀ W, Below w1.heap.size w1 W → Calls Tryz.prog 27 #[.agg #[.bool sb, .slice bo m cb]] W fun e w' => ∃ x c, e = .returned (.agg #[.bool sb, .slice x m c]) ∧ Below W.heap.size W w' ∧ Hid (Rd .u64 w' x m g ∧ (m ≤ c ∧ c ≤ 9223372036854775807) ∧ (x = none → m = 0 ∧ c = 0))) := fun W hW =>
    (wTwin_c sb bo m cb g W (by omega) (HSb.out.below hW (Nat.le_refl _)) NB.out).mono (fun e w' ⟨x, c, h1, h2, h3⟩ => ⟨x, c, h1, h2, h3.slice.2.2.2.1, ⟨h3.slice.1, h3.slice.2.1⟩, h3.slice.2.2.1⟩)
  have CC : Hid (∀ (W : World) (x : Option Addr) (c : Nat) (y : Option Addr) (d : Nat), (n ≤ c ∧ c ≤ 9223372036854775807) ∧ (x = none → n = 0 ∧ c = 0) → (m ≤ d ∧ d ≤ 9223372036854775807) ∧ (y = none → m = 0 ∧ d = 0) → Rd .u64 W x n f → Rd .u64 W y m g → Calls Tryz.prog 26 #[.agg #[.bool sa, .slice x n c], .agg #[.bool sb, .slice y m d]] W fun e w' => ∃ s x nn c ff y mm d gg er, e = .returned (.tuple #[.agg #[.bool s, .slice x nn c, .slice y mm d], .int .i64 er]) ∧ Below W.heap.size W w' ∧ Hid (OQ (wfB sa f n && wfB sb g m) 3 (wv sa f n : Int) (wv sb g m : Int) w' s x nn c ff y mm d gg er)) := fun W x c y d p1 p2 h1 h2 => rMake_g h1 HF.out p1.1 p1.2 h2 HG.out p2.1 p2.2 (by omega) (by omega)
  have DC : Hid (∀ W, Below w1.heap.size w1 W → Calls Tryz.prog 28 #[.agg #[.bool sa, .slice ao n ca], .agg #[.bool sb, .slice bo m cb]] W fun e w' => ∃ s x nn c ff y mm d gg er, e = .returned (.tuple #[.agg #[.bool s, .slice x nn c, .slice y mm d], .int .i64 er]) ∧ Below W.heap.size W w' ∧ Hid (OQ (wfB sa f n && wfB sb g m) 3 (wv sa f n : Int) (wv sb g m : Int) w' s x nn c ff y mm d gg er)) := fun W hW => docMake_g (HRa.out.below hW (Nat.le_refl _)) HF.out hn NA.out (HSb.out.below hW (Nat.le_refl _)) HG.out hm NB.out (by omega) (by omega)
  go_upto_region 5 with fail
  go_cut [5, 6] from 21 to 28 (fun u t wx => ∃ (wy : World) (b8 : Nat) (s : Bool) (x : Option Addr) (nn c : Nat) (ff : Nat → Int) (y : Option Addr) (mm d : Nat) (gg : Nat → Int) (er : Int), wy = wx ∧ u = .pointer (some ⟨b8, 0, none⟩) ∧ t = .int .i64 er ∧ SAt (wfB sa f n && wfB sb g m) 3 (wv sa f n : Int) (wv sb g m : Int) w1 wy b8 s x nn c ff y mm d gg er)
  case first =>
    go_region_held3 (fun w' => w'.cell? ⟨w.heap.size, 0, none⟩ = some (.bool sa) ∧ w'.cell? ⟨w.heap.size, 1, none⟩ = some (.slice ao n ca) ∧ w'.cell? ⟨w.heap.size + 1, 0, none⟩ = some (.bool sb) ∧ w'.cell? ⟨w.heap.size + 1, 1, none⟩ = some (.slice bo m cb))
      (refine ⟨?_, ?_, ?_, ?_⟩ <;> repeat (with_reducible first | assumption | refine kCd ?_ | refine kCa ?_ | refine kCs (by simp only [ne_eq]; omega) ?_ | refine kCb (by assumption) ?_))
      (first
        | (go_at_call 27; with_reducible refine (CT1.out _ (by repeat (with_reducible first | assumption | exact Below.refl _ _ | refine Below.drew ?_ | refine kBa ?_ | refine kBb (by assumption) ?_))).mono ?_; rintro e v5 ⟨x5, c5, rfl, hb5, H5⟩; have hzi := hb5.size; (try simp at hzi); obtain ⟨hc5, hf5⟩ := bcell hb5; (try have q100 : w1.heap.size < v5.heap.size := by omega))
        | (go_at_call 27; with_reducible refine (CT2.out _ (by repeat (with_reducible first | assumption | exact Below.refl _ _ | refine Below.drew ?_ | refine kBa ?_ | refine kBb (by assumption) ?_))).mono ?_; rintro e v6 ⟨x6, c6, rfl, hb6, H6⟩; have hzj := hb6.size; (try simp at hzj); obtain ⟨hc6, hf6⟩ := bcell hb6; (try have q100 : w1.heap.size < v6.heap.size := by omega); (try have q102 : v5.heap.size < v6.heap.size := by omega))
        | (go_at_call 26; with_reducible refine (CC.out _ x5 c5 x6 c6 H5.out.2 H6.out.2 (by repeat (with_reducible first | exact H5.out.1 | refine kYd ?_ | refine kYa ?_ | refine kYb (by assumption) ?_)) (by repeat (with_reducible first | exact H6.out.1 | refine kYd ?_ | refine kYa ?_ | refine kYb (by assumption) ?_))).mono ?_; rintro e v7 ⟨s7, x7, n7, c7, f7, y7, m7, d7, g7, e7, rfl, hb7, H7⟩; have hzk := hb7.size; (try simp at hzk); obtain ⟨hc7, hf7⟩ := bcell hb7; (try have q100 : w1.heap.size < v7.heap.size := by omega); (try have q102 : v5.heap.size < v7.heap.size := by omega); (try have q104 : v6.heap.size < v7.heap.size := by omega)))
    all_goals
      go_wp2_with fail
      go_meet
      have hbl : Below w1.heap.size w1 v7 := (by repeat (with_reducible first | assumption | exact Below.refl _ _ | refine Below.drew ?_ | refine kBa ?_ | refine kBb (by assumption) ?_))
      refine ⟨_, _, s7, x7, n7, c7, f7, y7, m7, d7, g7, e7, rfl, rfl, rfl, ?_⟩
      with_reducible first
        | exact sat_a hbl H7.out
        | exact sat_s hbl H7.out (by repeat (with_reducible first | exact ob_at rfl | exact ob_at (size_alloc1 _ _).symm | refine kOb hb7 ?_ | refine kOb hb6 ?_ | refine kOb hb5 ?_ | refine Ob.drew ?_ | refine kObA ?_)) (by omega)
  case rest =>
    obtain ⟨w9, b8, s8, x8, n8, c8, f8, y8, m8, d8, g8, e8, rfl, rfl, rfl, hb8, hb, hoq⟩ := hcut
    have HB9 := hid hb; have BX9 := hid hb8; have O9 := hid hoq
    clear hb hb8 hoq x0 x1 y0 y1 hz
    obtain ⟨za, a0, a1⟩ := BA1.out.below HB9.out
    obtain ⟨zb, b0, b1⟩ := BB1.out.below HB9.out
    go_wp2_with fail
    refine (DC.out _ HB9.out).mono ?_
    rintro e w10 ⟨s10, x10, n10, c10, f10, y10, m10, d10, g10, e10, rfl, hb, H10⟩
    have her := oq_er O9.out H10.out
    subst her
    have HB10 := hid (HB9.out.trans (hb.mono HB9.out.size)); have BX10 := hid (BX9.out.below hb); have O10 := hid (O9.out.below hb)
    have hen : (e10 == e10) = true := by simp
    clear hb za a0 a1 zb b0 b1
    obtain ⟨zx, p0, p1, p2⟩ := BX10.out
    go_wp2_with fail
    refine (oq_same (O10.out.alloc _) (H10.out.alloc _)).mono ?_
    rintro e w11 ⟨rfl, hb⟩
    have HB11 := hid (HW1.out.trans (((below_alloc HB10.out _).trans (hb.mono (below_alloc HB10.out _).size)).mono HW1.out.size))
    clear hb zx p0 p1 p2
    go_wp2
    go_ret
    exact ⟨rfl, HB11.out⟩
end Go.Proofs.YtndiiknbkjlbiaaGreatDoor

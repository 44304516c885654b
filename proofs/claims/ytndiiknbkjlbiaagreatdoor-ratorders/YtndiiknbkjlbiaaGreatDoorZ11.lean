/-
  Walks of the document's reference for rat: Mul, Quo, Int, To, DocOf, DocNeg. Walks of rat's calls where they tell that a number is not in form, and of the document's Doc, DocNeg there; DocNeg. Walks of the document's reference for rat: Int, DocOf. The walk of the document's reference for rat: Doc, of numbers in form. Walks of rat's Add, Sub, Mul, Quo, whatever they are handed, and of the statements' call. The walk of rat.Of. Walks of the document's reference for rat: Twin; the same digits elsewhere. Walks of package rat's calls Text on numbers in form, and Read on the text 4/2. The walk of package rat's call Text on -3/2. The walk of the statements' own look at answers of rat that the document fixes (awake).
-/
import Derived.Test.YtndiiknbkjlbiaaGreatDoorZ10
import Derived.Test.YtndiiknbkjlbiaaGreatDoorZ9
namespace Go.Proofs.YtndiiknbkjlbiaaGreatDoor
open Go.RowKit

theorem rquo_frac {a b : Rat} {s t : Bool} (ha : a.num = sg s a.num.natAbs) (hb : b.num = sg t b.num.natAbs) (h0 : 0 < b.num.natAbs) : a / b = ((sg (!(s == t)) (a.num.natAbs * b.den) : Int) : Rat) / (((a.den * b.num.natAbs : Nat) : Int) : Rat) := by
  obtain ⟨e1, e2⟩ := rinv hb h0
  rw [Rat.div_def, rmul_frac, e1, e2]
  have e3 : a.num * sg t b.den = sg (s != t) (a.num.natAbs * b.den) := by
    have := sg_mul s t a.num.natAbs b.den
    rw [← ha] at this; exact this
  rw [e3]
  have e4 : (s != t) = !(s == t) := by cases s <;> cases t <;> rfl
  rw [e4]

set_option maxRecDepth 100000 in
set_option maxHeartbeats 16000000 in
theorem qMul_c {w : World} {sa : Bool} {xa : Option Addr} {na ca : Nat} {da : Nat → Int} {ya : Option Addr} {ma ea : Nat} {ga : Nat → Int} {qa : Rat} {sb : Bool} {xb : Option Addr} {nb cb : Nat} {db : Nat → Int} {yb : Option Addr} {mb eb : Nat} {gb : Nat → Int} {qb : Rat} (ha : Qn w sa xa na da ya ma ga qa) (hb : Qn w sb xb nb db yb mb gb qb) (hna : na ≤ 1000) (hma : ma ≤ 1000) (hnb : nb ≤ 1000) (hmb : mb ≤ 1000) :
    Calls Tryz.prog 50 #[.agg #[.bool sa, .slice xa na ca, .slice ya ma ea], .agg #[.bool sb, .slice xb nb cb, .slice yb mb eb]] w fun e w' => QAns (na + ma + nb + mb + 3) w w' e (qa * qb) := by
  obtain ⟨h1, h2, h3, h4⟩ := qbox2 (w := w) (.bool sa) (.slice xa na ca) (.slice ya ma ea) (.bool sb) (.slice xb nb cb) (.slice yb mb eb) 72
  have h5 := ((ha.alloc (.cells #[.bool sa, .slice xa na ca, .slice ya ma ea] 72)).alloc (.cells #[.bool sb, .slice xb nb cb, .slice yb mb eb] 72)).alloc (.cells #[.bool false, .slice none 0 0, .slice none 0 0] 72)
  have h6 := ((hb.alloc (.cells #[.bool sa, .slice xa na ca, .slice ya ma ea] 72)).alloc (.cells #[.bool sb, .slice xb nb cb, .slice yb mb eb] 72)).alloc (.cells #[.bool false, .slice none 0 0, .slice none 0 0] 72)
  clear ha hb
  go_enter Tryz.func50, Tryz.ntmps50
  go_wp2_with fail
  generalize ((w.alloc (.cells #[.bool sa, .slice xa na ca, .slice ya ma ea] 72)).alloc (.cells #[.bool sb, .slice xb nb cb, .slice yb mb eb] 72)).alloc (.cells #[.bool false, .slice none 0 0, .slice none 0 0] 72) = w1 at *
  have HA := hid h5; have HB := hid h6; have OB := hid h3; have HW := hid h4
  obtain ⟨za, a0, a1, a2⟩ := h1
  obtain ⟨zb, b0, b1, b2⟩ := h2
  obtain ⟨hz, z0, z1, z2, zf⟩ := h3
  clear h4 h5 h6
  have HD := hid (show 0 < qa.den * qb.den from Nat.mul_pos qa.den_pos qb.den_pos)
  have C2 : Hid (∀ (W : World), Below w1.heap.size w1 W → Calls Tryz.prog 87 #[.agg #[.bool sa, .slice xa na ca], .agg #[.bool sb, .slice xb nb cb]] W fun e w' => ∃ s x n c d, e = .returned (.agg #[.bool s, .slice x n c]) ∧ Below W.heap.size W w' ∧ Hid (n ≤ na + nb ∧ Zn w' s x n d (qa.num * qb.num))) := fun W hW => zMulE_c (HA.out.num.below hW) (HB.out.num.below hW) (by omega) (by omega)
  have C6 : Hid (∀ W, Below w1.heap.size w1 W → Calls Tryz.prog 88 #[.slice ya ma ea, .slice yb mb eb] W fun e w' => ∃ z k c' q, e = .returned (.slice z k c') ∧ Below W.heap.size W w' ∧ Hid (k ≤ ma + mb ∧ Dn w' z k q (qa.den * qb.den))) := fun W hW => dMul_c (HA.out.den.below hW) (HB.out.den.below hW) (by omega) (by omega)
  have C7 : Hid (∀ (W : World) (s : Bool) (x : Option Addr) (n c : Nat) (d : Nat → Int) (y : Option Addr) (m e : Nat) (g : Nat → Int), n ≤ na + nb → m ≤ ma + mb → Zn W s x n d (qa.num * qb.num) → Dn W y m g (qa.den * qb.den) → Calls Tryz.prog 73 #[.agg #[.bool s, .slice x n c], .slice y m e] W fun en w' => ∃ s' x' n' c1 d' y' m' c2 g', en = .returned (.agg #[.bool s', .slice x' n' c1, .slice y' m' c2]) ∧ Below W.heap.size W w' ∧ Hid (n' ≤ na + ma + nb + mb + 3 ∧ m' ≤ na + ma + nb + mb + 3 ∧ Qn w' s' x' n' d' y' m' g' (qa * qb))) := fun W s x n c d y m e g h1 h2 h3 h4 => (mkQn_c h3 h4 (by omega) (by omega) HD.out).mono (fun _ _ ⟨s', x', n', c1, d', y', m', c2, g', k1, k2, k3, k4, k5⟩ => ⟨s', x', n', c1, d', y', m', c2, g', k1, k2, by omega, by omega, by rw [rmul_frac]; exact k5⟩)
  go_region_held3 (fun w' => w'.cell? ⟨w.heap.size, 0, none⟩ = some (.bool sa) ∧ w'.cell? ⟨w.heap.size, 1, none⟩ = some (.slice xa na ca) ∧ w'.cell? ⟨w.heap.size, 2, none⟩ = some (.slice ya ma ea) ∧ w'.cell? ⟨w.heap.size + 1, 0, none⟩ = some (.bool sb) ∧ w'.cell? ⟨w.heap.size + 1, 1, none⟩ = some (.slice xb nb cb) ∧ w'.cell? ⟨w.heap.size + 1, 2, none⟩ = some (.slice yb mb eb) ∧ (w'.cell? ⟨w.heap.size + 1 + 1, 0, none⟩).isSome = true ∧ (w'.cell? ⟨w.heap.size + 1 + 1, 1, none⟩).isSome = true ∧ (w'.cell? ⟨w.heap.size + 1 + 1, 2, none⟩).isSome = true ∧ w'.frozen? ⟨w.heap.size + 1 + 1, 0, none⟩ = false ∧ w'.frozen? ⟨w.heap.size + 1 + 1, 1, none⟩ = false ∧ w'.frozen? ⟨w.heap.size + 1 + 1, 2, none⟩ = false)
    (refine ⟨?_, ?_, ?_, ?_, ?_, ?_, ?_, ?_, ?_, ?_, ?_, ?_⟩ <;> repeat (with_reducible first | assumption | exact zf _ | exact uf _ | exact kf _ | exact pf _ | exact kI0 z0 | exact kI0 z1 | exact kI0 z2 | exact kI0 u0 | exact kI0 u1 | exact kI0 u2 | exact kI0 k0 | exact kI0 k1 | exact kI0 k2 | exact kI0 p0 | exact kI0 p1 | exact kI0 p2 | refine kCd ?_ | refine kId ?_ | refine kFd ?_ | refine kCs (by simp only [ne_eq]; omega) ?_ | refine kIs ?_ | refine kFs ?_ | refine kCb (by assumption) ?_ | refine kIb (by assumption) ?_))
    (first
      | (go_at_call 87; with_reducible refine (C2.out _ (by repeat (with_reducible first | assumption | exact Below.refl _ _ | refine Below.drew ?_ | refine kBb (by assumption) ?_))).mono ?_; rintro e v2 ⟨s2, x2, n2, c2, d2, rfl, hv2, H2⟩; have Tu : Ob v2 (w.heap.size + 1 + 1) := (by repeat (with_reducible first | exact OB.out | exact Tt | exact Tu | exact Tk | exact Tp | refine Ob.drew ?_ | refine kOb (by assumption) ?_)); obtain ⟨_, u0, u1, u2, uf⟩ := id Tu)
      | (go_at_call 88; with_reducible refine (C6.out _ (by repeat (with_reducible first | assumption | exact Below.refl _ _ | refine Below.drew ?_ | refine kBb (by assumption) ?_))).mono ?_; rintro e v6 ⟨z6, k6, c6, d6, rfl, hv6, H6⟩; have Tk : Ob v6 (w.heap.size + 1 + 1) := (by repeat (with_reducible first | exact OB.out | exact Tt | exact Tu | exact Tk | exact Tp | refine Ob.drew ?_ | refine kOb (by assumption) ?_)); obtain ⟨_, k0, k1, k2, kf⟩ := id Tk)
      | (go_at_call 73; with_reducible refine (C7.out _ s2 x2 n2 c2 d2 z6 k6 c6 d6 H2.out.1 H6.out.1 (by repeat (with_reducible first | exact H2.out.2 | refine kZd ?_ | refine kZb (by assumption) ?_)) (by repeat (with_reducible first | exact H6.out.2 | refine Dn.drew ?_ | refine kDb (by assumption) ?_))).mono ?_; rintro e v8 ⟨s8, x8, n8, c8, d8, y8, m8, e8, g8, rfl, hv8, H8⟩; have Tp : Ob v8 (w.heap.size + 1 + 1) := (by repeat (with_reducible first | exact OB.out | exact Tt | exact Tu | exact Tk | exact Tp | refine Ob.drew ?_ | refine kOb (by assumption) ?_)); obtain ⟨_, p0, p1, p2, pf⟩ := id Tp))
  all_goals
    have hb : Below w1.heap.size w1 v8 := (by repeat (with_reducible first | assumption | exact Below.refl _ _ | refine Below.drew ?_ | refine kBb (by assumption) ?_))
    go_wp2
    exact bodyPost_ret (v := .agg #[.bool s8, .slice x8 n8 c8, .slice y8 m8 e8]) (by simp [results, Tryz.results50, go_sem, p0, p1, p2]) rfl ⟨s8, x8, n8, c8, d8, y8, m8, e8, g8, rfl, below_st (HW.out.trans (hb.mono HW.out.size)) (by omega), H8.out.1, H8.out.2.1, Tp.qn H8.out.2.2⟩

set_option maxRecDepth 100000 in
set_option maxHeartbeats 16000000 in
theorem qQuo_c {w : World} {sa : Bool} {xa : Option Addr} {na ca : Nat} {da : Nat → Int} {ya : Option Addr} {ma ea : Nat} {ga : Nat → Int} {qa : Rat} {sb : Bool} {xb : Option Addr} {nb cb : Nat} {db : Nat → Int} {yb : Option Addr} {mb eb : Nat} {gb : Nat → Int} {qb : Rat} (ha : Qn w sa xa na da ya ma ga qa) (hb : Qn w sb xb nb db yb mb gb qb) (hna : na ≤ 1000) (hma : ma ≤ 1000) (hnb : nb ≤ 1000) (hmb : mb ≤ 1000) (hq0 : qb.num ≠ 0) :
    Calls Tryz.prog 52 #[.agg #[.bool sa, .slice xa na ca, .slice ya ma ea], .agg #[.bool sb, .slice xb nb cb, .slice yb mb eb]] w fun e w' => QAns (na + ma + nb + mb + 3) w w' e (qa / qb) := by
  obtain ⟨h1, h2, h3, h4⟩ := qbox2 (w := w) (.bool sa) (.slice xa na ca) (.slice ya ma ea) (.bool sb) (.slice xb nb cb) (.slice yb mb eb) 72
  have h5 := ((ha.alloc (.cells #[.bool sa, .slice xa na ca, .slice ya ma ea] 72)).alloc (.cells #[.bool sb, .slice xb nb cb, .slice yb mb eb] 72)).alloc (.cells #[.bool false, .slice none 0 0, .slice none 0 0] 72)
  have h6 := ((hb.alloc (.cells #[.bool sa, .slice xa na ca, .slice ya ma ea] 72)).alloc (.cells #[.bool sb, .slice xb nb cb, .slice yb mb eb] 72)).alloc (.cells #[.bool false, .slice none 0 0, .slice none 0 0] 72)
  clear ha hb
  go_enter Tryz.func52, Tryz.ntmps52
  go_wp2_with fail
  generalize ((w.alloc (.cells #[.bool sa, .slice xa na ca, .slice ya ma ea] 72)).alloc (.cells #[.bool sb, .slice xb nb cb, .slice yb mb eb] 72)).alloc (.cells #[.bool false, .slice none 0 0, .slice none 0 0] 72) = w1 at *
  have HA := hid h5; have HB := hid h6; have OB := hid h3; have HW := hid h4
  obtain ⟨za, a0, a1, a2⟩ := h1
  obtain ⟨zb, b0, b1, b2⟩ := h2
  obtain ⟨hz, z0, z1, z2, zf⟩ := h3
  clear h4 h5 h6
  have hp0 : 0 < qb.num.natAbs := by omega
  have HP0 := hid hp0
  have HD := hid (show 0 < qa.den * qb.num.natAbs from Nat.mul_pos qa.den_pos hp0)
  clear hp0 hq0
  have C2 : Hid (∀ (W : World), Below w1.heap.size w1 W → Calls Tryz.prog 88 #[.slice xa na ca, .slice yb mb eb] W fun e w' => ∃ z k c' q, e = .returned (.slice z k c') ∧ Below W.heap.size W w' ∧ Hid (k ≤ na + mb ∧ Dn w' z k q (qa.num.natAbs * qb.den))) := fun W hW => dMul_c (HA.out.num.dn.below hW) (HB.out.den.below hW) (by omega) (by omega)
  have C3 : Hid (∀ (W : World) (z : Option Addr) (k c : Nat) (d : Nat → Int), k ≤ na + mb → Dn W z k d (qa.num.natAbs * qb.den) → Calls Tryz.prog 69 #[.bool (!(sa == sb)), .slice z k c] W fun e w' => ∃ r, e = .returned (.agg #[.bool r, .slice z k c]) ∧ Below W.heap.size W w' ∧ Hid (Zn w' r z k d (sg (!(sa == sb)) (qa.num.natAbs * qb.den)))) := fun W z k c d h1 h2 => (mkZ_c (by omega)).mono (fun _ _ ⟨r, k1, k2, k3⟩ => ⟨r, k1, k2, Zn.of (h2.below k2) k3⟩)
  have C6 : Hid (∀ W, Below w1.heap.size w1 W → Calls Tryz.prog 88 #[.slice ya ma ea, .slice xb nb cb] W fun e w' => ∃ z k c' q, e = .returned (.slice z k c') ∧ Below W.heap.size W w' ∧ Hid (k ≤ ma + nb ∧ Dn w' z k q (qa.den * qb.num.natAbs))) := fun W hW => dMul_c (HA.out.den.below hW) (HB.out.num.dn.below hW) (by omega) (by omega)
  have C7 : Hid (∀ (W : World) (s : Bool) (x : Option Addr) (n c : Nat) (d : Nat → Int) (y : Option Addr) (m e : Nat) (g : Nat → Int), n ≤ na + mb → m ≤ ma + nb → Zn W s x n d (sg (!(sa == sb)) (qa.num.natAbs * qb.den)) → Dn W y m g (qa.den * qb.num.natAbs) → Calls Tryz.prog 73 #[.agg #[.bool s, .slice x n c], .slice y m e] W fun en w' => ∃ s' x' n' c1 d' y' m' c2 g', en = .returned (.agg #[.bool s', .slice x' n' c1, .slice y' m' c2]) ∧ Below W.heap.size W w' ∧ Hid (n' ≤ na + ma + nb + mb + 3 ∧ m' ≤ na + ma + nb + mb + 3 ∧ Qn w' s' x' n' d' y' m' g' (qa / qb))) := fun W s x n c d y m e g h1 h2 h3 h4 => (mkQn_c h3 h4 (by omega) (by omega) HD.out).mono (fun _ _ ⟨s', x', n', c1, d', y', m', c2, g', k1, k2, k3, k4, k5⟩ => ⟨s', x', n', c1, d', y', m', c2, g', k1, k2, by omega, by omega, by rw [rquo_frac HA.out.num.sgn HB.out.num.sgn HP0.out]; exact k5⟩)
  go_region_held3 (fun w' => w'.cell? ⟨w.heap.size, 0, none⟩ = some (.bool sa) ∧ w'.cell? ⟨w.heap.size, 1, none⟩ = some (.slice xa na ca) ∧ w'.cell? ⟨w.heap.size, 2, none⟩ = some (.slice ya ma ea) ∧ w'.cell? ⟨w.heap.size + 1, 0, none⟩ = some (.bool sb) ∧ w'.cell? ⟨w.heap.size + 1, 1, none⟩ = some (.slice xb nb cb) ∧ w'.cell? ⟨w.heap.size + 1, 2, none⟩ = some (.slice yb mb eb) ∧ (w'.cell? ⟨w.heap.size + 1 + 1, 0, none⟩).isSome = true ∧ (w'.cell? ⟨w.heap.size + 1 + 1, 1, none⟩).isSome = true ∧ (w'.cell? ⟨w.heap.size + 1 + 1, 2, none⟩).isSome = true ∧ w'.frozen? ⟨w.heap.size + 1 + 1, 0, none⟩ = false ∧ w'.frozen? ⟨w.heap.size + 1 + 1, 1, none⟩ = false ∧ w'.frozen? ⟨w.heap.size + 1 + 1, 2, none⟩ = false)
    (refine ⟨?_, ?_, ?_, ?_, ?_, ?_, ?_, ?_, ?_, ?_, ?_, ?_⟩ <;> repeat (with_reducible first | assumption | exact zf _ | exact tf _ | exact uf _ | exact kf _ | exact pf _ | exact kI0 z0 | exact kI0 z1 | exact kI0 z2 | exact kI0 t0 | exact kI0 t1 | exact kI0 t2 | exact kI0 u0 | exact kI0 u1 | exact kI0 u2 | exact kI0 k0 | exact kI0 k1 | exact kI0 k2 | exact kI0 p0 | exact kI0 p1 | exact kI0 p2 | refine kCd ?_ | refine kId ?_ | refine kFd ?_ | refine kCs (by simp only [ne_eq]; omega) ?_ | refine kIs ?_ | refine kFs ?_ | refine kCb (by assumption) ?_ | refine kIb (by assumption) ?_))
    (first
      | (go_at_call 88; with_reducible refine (C2.out _ (by repeat (with_reducible first | assumption | exact Below.refl _ _ | refine Below.drew ?_ | refine kBb (by assumption) ?_))).mono ?_; rintro e v2 ⟨zm, km, cm, dm, rfl, hv2, H2⟩; have Tt : Ob v2 (w.heap.size + 1 + 1) := (by repeat (with_reducible first | exact OB.out | exact Tt | exact Tu | exact Tk | exact Tp | refine Ob.drew ?_ | refine kOb (by assumption) ?_)); obtain ⟨_, t0, t1, t2, tf⟩ := id Tt)
      | (go_at_call 69; with_reducible refine (C3.out _ zm km cm dm H2.out.1 (by repeat (with_reducible first | exact H2.out.2 | refine Dn.drew ?_ | refine kDb (by assumption) ?_))).mono ?_; rintro e v3 ⟨r3, rfl, hv3, H3⟩; have Tu : Ob v3 (w.heap.size + 1 + 1) := (by repeat (with_reducible first | exact OB.out | exact Tt | exact Tu | exact Tk | exact Tp | refine Ob.drew ?_ | refine kOb (by assumption) ?_)); obtain ⟨_, u0, u1, u2, uf⟩ := id Tu)
      | (go_at_call 88; with_reducible refine (C6.out _ (by repeat (with_reducible first | assumption | exact Below.refl _ _ | refine Below.drew ?_ | refine kBb (by assumption) ?_))).mono ?_; rintro e v6 ⟨z6, k6, c6, d6, rfl, hv6, H6⟩; have Tk : Ob v6 (w.heap.size + 1 + 1) := (by repeat (with_reducible first | exact OB.out | exact Tt | exact Tu | exact Tk | exact Tp | refine Ob.drew ?_ | refine kOb (by assumption) ?_)); obtain ⟨_, k0, k1, k2, kf⟩ := id Tk)
      | (go_at_call 73; with_reducible refine (C7.out _ r3 zm km cm dm z6 k6 c6 d6 H2.out.1 H6.out.1 (by repeat (with_reducible first | exact H3.out | refine kZd ?_ | refine kZb (by assumption) ?_)) (by repeat (with_reducible first | exact H6.out.2 | refine Dn.drew ?_ | refine kDb (by assumption) ?_))).mono ?_; rintro e v8 ⟨s8, x8, n8, c8, d8, y8, m8, e8, g8, rfl, hv8, H8⟩; have Tp : Ob v8 (w.heap.size + 1 + 1) := (by repeat (with_reducible first | exact OB.out | exact Tt | exact Tu | exact Tk | exact Tp | refine Ob.drew ?_ | refine kOb (by assumption) ?_)); obtain ⟨_, p0, p1, p2, pf⟩ := id Tp))
  all_goals
    have hb : Below w1.heap.size w1 v8 := (by repeat (with_reducible first | assumption | exact Below.refl _ _ | refine Below.drew ?_ | refine kBb (by assumption) ?_))
    go_wp2
    exact bodyPost_ret (v := .agg #[.bool s8, .slice x8 n8 c8, .slice y8 m8 e8]) (by simp [results, Tryz.results52, go_sem, p0, p1, p2]) rfl ⟨s8, x8, n8, c8, d8, y8, m8, e8, g8, rfl, below_st (HW.out.trans (hb.mono HW.out.size)) (by omega), H8.out.1, H8.out.2.1, Tp.qn H8.out.2.2⟩

/-- To, on a rational number of the reference. -/
theorem qToR_c {w : World} {s : Bool} {x : Option Addr} {n c : Nat} {d : Nat → Int} {y : Option Addr} {m e : Nat} {g : Nat → Int} {q : Rat} (h : Qn w s x n d y m g q) (hn : n ≤ 4096) (hm : m ≤ 4096) :
    Calls Tryz.prog 41 #[.agg #[.bool s, .slice x n c, .slice y m e]] w fun en w' => ∃ z k c' f z2 k2 c2 f2, en = .returned (.agg #[.bool s, .slice z k c', .slice z2 k2 c2]) ∧ Below w.heap.size w w' ∧ Hid (Rn (n + m) w' s z k c' f z2 k2 c2 f2 q) := by
  refine (qTo_c h.num.dn h.den hn hm).mono ?_
  rintro en w' ⟨z, k, c', f, z2, k2, c2, f2, rfl, h2, h3, h4, h5, h6, _, _⟩
  refine ⟨z, k, c', f, z2, k2, c2, f2, rfl, h2, ⟨h5.rd, h5.lm, (wfB_iff _ _ _).2 ⟨fm_of_wfB h5.wf, fun hs => ?_⟩, h5.cap, h5.nil, ?_⟩, h6, by omega, by omega⟩
  · have h0 := h.num.dn.pos' (h.num.pos hs)
    rcases Nat.eq_zero_or_pos k with hk | hk
    · subst hk
      have hv := h5.val
      rw [wv_false] at hv
      have : (0 : Int) = q.num.natAbs := hv
      omega
    · exact hk
  · have hv := h5.val
    rw [wv_false] at hv
    have hs := h.num.sgn
    cases s
    · rw [wv_false, hv]; exact hs.symm
    · rw [wv_true, hv]; exact hs.symm
end Go.Proofs.YtndiiknbkjlbiaaGreatDoor
namespace Go.Proofs.YtndiiknbkjlbiaaGreatDoor
open Go.RowKit

set_option maxRecDepth 100000 in
set_option maxHeartbeats 4000000 in
theorem rAddErr_c {w : World} {sa : Bool} {xa : Option Addr} {na ca : Nat} {fa : Nat → Int} {ya : Option Addr} {ma ea : Nat} {ga : Nat → Int} {sb : Bool} {xb : Option Addr} {nb cb : Nat} {fb : Nat → Int} {yb : Option Addr} {mb eb : Nat} {gb : Nat → Int} (ha : Rw w xa na ca fa ya ma ea ga) (hb : Rw w xb nb cb fb yb mb eb gb) (hna : na ≤ 1000) (hma : ma ≤ 1000) (hnb : nb ≤ 1000) (hmb : mb ≤ 1000) (hp : (rfB sa fa na ga ma && rfB sb fb nb gb mb) = false) :
    Calls Tryz.prog 35 #[.agg #[.bool sa, .slice xa na ca, .slice ya ma ea], .agg #[.bool sb, .slice xb nb cb, .slice yb mb eb]] w fun en w' => en = .returned (.tuple #[.agg #[.bool false, .slice none 0 0, .slice none 0 0], .int .i64 3]) ∧ Below w.heap.size w w' := by
  obtain ⟨h1, h2, h3, h4⟩ := qbox2 (w := w) (.bool sa) (.slice xa na ca) (.slice ya ma ea) (.bool sb) (.slice xb nb cb) (.slice yb mb eb) 24
  have h5 := ha.below h4
  have h6 := hb.below h4
  clear ha hb
  go_enter Tryz.func35, Tryz.ntmps35
  go_wp2_with fail
  generalize ((w.alloc (.cells #[.bool sa, .slice xa na ca, .slice ya ma ea] 24)).alloc (.cells #[.bool sb, .slice xb nb cb, .slice yb mb eb] 24)).alloc (.cells #[.bool false, .slice none 0 0, .slice none 0 0] 24) = w1 at *
  have HRA := hid h5; have HRB := hid h6; have HW := hid h4; have BA := hid h1; have BB := hid h2; have OB := hid h3
  clear h1 h2 h3 h4 h5 h6
  have c1 := rForm_c (s := sa) HRA.out (by omega) (by omega)
  cases h1 : rfB sa fa na ga ma
  · rw [h1] at c1
    refine c1.mono ?_
    rintro en w2 ⟨rfl, hb⟩
    have HB := hid (HW.out.trans (hb.mono HW.out.size))
    obtain ⟨hz, z0, z1, z2, zf⟩ := OB.out.below hb
    clear c1 hb hp
    go_wp2
    exact bodyPost_ret (v := .tuple #[.agg #[.bool false, .slice none 0 0, .slice none 0 0], .int .i64 3]) (by simp [results, Tryz.results35, go_sem, z0, z1, z2]) rfl ⟨rfl, below_st HB.out (by omega)⟩
  rw [h1] at c1
  refine c1.mono ?_
  rintro en w2 ⟨rfl, hb⟩
  have h2 : rfB sb fb nb gb mb = false := by rw [h1] at hp; simpa using hp
  have HB2 := hid hb
  clear c1 hb hp h1
  obtain ⟨zb, b0, b1, b2⟩ := BB.out.below HB2.out
  have c2 := rForm_c (s := sb) (HRB.out.below HB2.out) (by omega) (by omega)
  rw [h2] at c2
  go_wp2_with fail
  refine c2.mono ?_
  rintro en w3 ⟨rfl, hb⟩
  have HB3 := hid (HB2.out.trans (hb.mono HB2.out.size))
  have HB := hid (HW.out.trans (HB3.out.mono HW.out.size))
  obtain ⟨hz, z0, z1, z2, zf⟩ := OB.out.below HB3.out
  clear c2 hb h2 zb b0 b1 b2
  go_wp2
  exact bodyPost_ret (v := .tuple #[.agg #[.bool false, .slice none 0 0, .slice none 0 0], .int .i64 3]) (by simp [results, Tryz.results35, go_sem, z0, z1, z2]) rfl ⟨rfl, below_st HB.out (by omega)⟩

set_option maxRecDepth 100000 in
set_option maxHeartbeats 4000000 in
theorem rSubErr_c {w : World} {sa : Bool} {xa : Option Addr} {na ca : Nat} {fa : Nat → Int} {ya : Option Addr} {ma ea : Nat} {ga : Nat → Int} {sb : Bool} {xb : Option Addr} {nb cb : Nat} {fb : Nat → Int} {yb : Option Addr} {mb eb : Nat} {gb : Nat → Int} (ha : Rw w xa na ca fa ya ma ea ga) (hb : Rw w xb nb cb fb yb mb eb gb) (hna : na ≤ 1000) (hma : ma ≤ 1000) (hnb : nb ≤ 1000) (hmb : mb ≤ 1000) (hp : (rfB sa fa na ga ma && rfB sb fb nb gb mb) = false) :
    Calls Tryz.prog 43 #[.agg #[.bool sa, .slice xa na ca, .slice ya ma ea], .agg #[.bool sb, .slice xb nb cb, .slice yb mb eb]] w fun en w' => en = .returned (.tuple #[.agg #[.bool false, .slice none 0 0, .slice none 0 0], .int .i64 3]) ∧ Below w.heap.size w w' := by
  obtain ⟨h1, h2, h3, h4⟩ := qbox2 (w := w) (.bool sa) (.slice xa na ca) (.slice ya ma ea) (.bool sb) (.slice xb nb cb) (.slice yb mb eb) 24
  have h5 := ha.below h4
  have h6 := hb.below h4
  clear ha hb
  go_enter Tryz.func43, Tryz.ntmps43
  go_wp2_with fail
  generalize ((w.alloc (.cells #[.bool sa, .slice xa na ca, .slice ya ma ea] 24)).alloc (.cells #[.bool sb, .slice xb nb cb, .slice yb mb eb] 24)).alloc (.cells #[.bool false, .slice none 0 0, .slice none 0 0] 24) = w1 at *
  have HRA := hid h5; have HRB := hid h6; have HW := hid h4; have BA := hid h1; have BB := hid h2; have OB := hid h3
  clear h1 h2 h3 h4 h5 h6
  have c1 := rForm_c (s := sa) HRA.out (by omega) (by omega)
  cases h1 : rfB sa fa na ga ma
  · rw [h1] at c1
    refine c1.mono ?_
    rintro en w2 ⟨rfl, hb⟩
    have HB := hid (HW.out.trans (hb.mono HW.out.size))
    obtain ⟨hz, z0, z1, z2, zf⟩ := OB.out.below hb
    clear c1 hb hp
    go_wp2
    exact bodyPost_ret (v := .tuple #[.agg #[.bool false, .slice none 0 0, .slice none 0 0], .int .i64 3]) (by simp [results, Tryz.results43, go_sem, z0, z1, z2]) rfl ⟨rfl, below_st HB.out (by omega)⟩
  rw [h1] at c1
  refine c1.mono ?_
  rintro en w2 ⟨rfl, hb⟩
  have h2 : rfB sb fb nb gb mb = false := by rw [h1] at hp; simpa using hp
  have HB2 := hid hb
  clear c1 hb hp h1
  obtain ⟨zb, b0, b1, b2⟩ := BB.out.below HB2.out
  have c2 := rForm_c (s := sb) (HRB.out.below HB2.out) (by omega) (by omega)
  rw [h2] at c2
  go_wp2_with fail
  refine c2.mono ?_
  rintro en w3 ⟨rfl, hb⟩
  have HB3 := hid (HB2.out.trans (hb.mono HB2.out.size))
  have HB := hid (HW.out.trans (HB3.out.mono HW.out.size))
  obtain ⟨hz, z0, z1, z2, zf⟩ := OB.out.below HB3.out
  clear c2 hb h2 zb b0 b1 b2
  go_wp2
  exact bodyPost_ret (v := .tuple #[.agg #[.bool false, .slice none 0 0, .slice none 0 0], .int .i64 3]) (by simp [results, Tryz.results43, go_sem, z0, z1, z2]) rfl ⟨rfl, below_st HB.out (by omega)⟩

set_option maxRecDepth 100000 in
set_option maxHeartbeats 4000000 in
theorem rMulErr_c {w : World} {sa : Bool} {xa : Option Addr} {na ca : Nat} {fa : Nat → Int} {ya : Option Addr} {ma ea : Nat} {ga : Nat → Int} {sb : Bool} {xb : Option Addr} {nb cb : Nat} {fb : Nat → Int} {yb : Option Addr} {mb eb : Nat} {gb : Nat → Int} (ha : Rw w xa na ca fa ya ma ea ga) (hb : Rw w xb nb cb fb yb mb eb gb) (hna : na ≤ 1000) (hma : ma ≤ 1000) (hnb : nb ≤ 1000) (hmb : mb ≤ 1000) (hp : (rfB sa fa na ga ma && rfB sb fb nb gb mb) = false) :
    Calls Tryz.prog 44 #[.agg #[.bool sa, .slice xa na ca, .slice ya ma ea], .agg #[.bool sb, .slice xb nb cb, .slice yb mb eb]] w fun en w' => en = .returned (.tuple #[.agg #[.bool false, .slice none 0 0, .slice none 0 0], .int .i64 3]) ∧ Below w.heap.size w w' := by
  obtain ⟨h1, h2, h3, h4⟩ := qbox2 (w := w) (.bool sa) (.slice xa na ca) (.slice ya ma ea) (.bool sb) (.slice xb nb cb) (.slice yb mb eb) 24
  have h5 := ha.below h4
  have h6 := hb.below h4
  clear ha hb
  go_enter Tryz.func44, Tryz.ntmps44
  go_wp2_with fail
  generalize ((w.alloc (.cells #[.bool sa, .slice xa na ca, .slice ya ma ea] 24)).alloc (.cells #[.bool sb, .slice xb nb cb, .slice yb mb eb] 24)).alloc (.cells #[.bool false, .slice none 0 0, .slice none 0 0] 24) = w1 at *
  have HRA := hid h5; have HRB := hid h6; have HW := hid h4; have BA := hid h1; have BB := hid h2; have OB := hid h3
  clear h1 h2 h3 h4 h5 h6
  have c1 := rForm_c (s := sa) HRA.out (by omega) (by omega)
  cases h1 : rfB sa fa na ga ma
  · rw [h1] at c1
    refine c1.mono ?_
    rintro en w2 ⟨rfl, hb⟩
    have HB := hid (HW.out.trans (hb.mono HW.out.size))
    obtain ⟨hz, z0, z1, z2, zf⟩ := OB.out.below hb
    clear c1 hb hp
    go_wp2
    exact bodyPost_ret (v := .tuple #[.agg #[.bool false, .slice none 0 0, .slice none 0 0], .int .i64 3]) (by simp [results, Tryz.results44, go_sem, z0, z1, z2]) rfl ⟨rfl, below_st HB.out (by omega)⟩
  rw [h1] at c1
  refine c1.mono ?_
  rintro en w2 ⟨rfl, hb⟩
  have h2 : rfB sb fb nb gb mb = false := by rw [h1] at hp; simpa using hp
  have HB2 := hid hb
  clear c1 hb hp h1
  obtain ⟨zb, b0, b1, b2⟩ := BB.out.below HB2.out
  have c2 := rForm_c (s := sb) (HRB.out.below HB2.out) (by omega) (by omega)
  rw [h2] at c2
  go_wp2_with fail
  refine c2.mono ?_
  rintro en w3 ⟨rfl, hb⟩
  have HB3 := hid (HB2.out.trans (hb.mono HB2.out.size))
  have HB := hid (HW.out.trans (HB3.out.mono HW.out.size))
  obtain ⟨hz, z0, z1, z2, zf⟩ := OB.out.below HB3.out
  clear c2 hb h2 zb b0 b1 b2
  go_wp2
  exact bodyPost_ret (v := .tuple #[.agg #[.bool false, .slice none 0 0, .slice none 0 0], .int .i64 3]) (by simp [results, Tryz.results44, go_sem, z0, z1, z2]) rfl ⟨rfl, below_st HB.out (by omega)⟩

set_option maxRecDepth 100000 in
set_option maxHeartbeats 4000000 in
theorem rQuoErr_c {w : World} {sa : Bool} {xa : Option Addr} {na ca : Nat} {fa : Nat → Int} {ya : Option Addr} {ma ea : Nat} {ga : Nat → Int} {sb : Bool} {xb : Option Addr} {nb cb : Nat} {fb : Nat → Int} {yb : Option Addr} {mb eb : Nat} {gb : Nat → Int} (ha : Rw w xa na ca fa ya ma ea ga) (hb : Rw w xb nb cb fb yb mb eb gb) (hna : na ≤ 1000) (hma : ma ≤ 1000) (hnb : nb ≤ 1000) (hmb : mb ≤ 1000) (hp : (rfB sa fa na ga ma && rfB sb fb nb gb mb) = false) :
    Calls Tryz.prog 45 #[.agg #[.bool sa, .slice xa na ca, .slice ya ma ea], .agg #[.bool sb, .slice xb nb cb, .slice yb mb eb]] w fun en w' => en = .returned (.tuple #[.agg #[.bool false, .slice none 0 0, .slice none 0 0], .int .i64 3]) ∧ Below w.heap.size w w' := by
  obtain ⟨h1, h2, h3, h4⟩ := qbox2 (w := w) (.bool sa) (.slice xa na ca) (.slice ya ma ea) (.bool sb) (.slice xb nb cb) (.slice yb mb eb) 24
  have h5 := ha.below h4
  have h6 := hb.below h4
  clear ha hb
  go_enter Tryz.func45, Tryz.ntmps45
  go_wp2_with fail
  generalize ((w.alloc (.cells #[.bool sa, .slice xa na ca, .slice ya ma ea] 24)).alloc (.cells #[.bool sb, .slice xb nb cb, .slice yb mb eb] 24)).alloc (.cells #[.bool false, .slice none 0 0, .slice none 0 0] 24) = w1 at *
  have HRA := hid h5; have HRB := hid h6; have HW := hid h4; have BA := hid h1; have BB := hid h2; have OB := hid h3
  clear h1 h2 h3 h4 h5 h6
  have c1 := rForm_c (s := sa) HRA.out (by omega) (by omega)
  cases h1 : rfB sa fa na ga ma
  · rw [h1] at c1
    refine c1.mono ?_
    rintro en w2 ⟨rfl, hb⟩
    have HB := hid (HW.out.trans (hb.mono HW.out.size))
    obtain ⟨hz, z0, z1, z2, zf⟩ := OB.out.below hb
    clear c1 hb hp
    go_wp2
    exact bodyPost_ret (v := .tuple #[.agg #[.bool false, .slice none 0 0, .slice none 0 0], .int .i64 3]) (by simp [results, Tryz.results45, go_sem, z0, z1, z2]) rfl ⟨rfl, below_st HB.out (by omega)⟩
  rw [h1] at c1
  refine c1.mono ?_
  rintro en w2 ⟨rfl, hb⟩
  have h2 : rfB sb fb nb gb mb = false := by rw [h1] at hp; simpa using hp
  have HB2 := hid hb
  clear c1 hb hp h1
  obtain ⟨zb, b0, b1, b2⟩ := BB.out.below HB2.out
  have c2 := rForm_c (s := sb) (HRB.out.below HB2.out) (by omega) (by omega)
  rw [h2] at c2
  go_wp2_with fail
  refine c2.mono ?_
  rintro en w3 ⟨rfl, hb⟩
  have HB3 := hid (HB2.out.trans (hb.mono HB2.out.size))
  have HB := hid (HW.out.trans (HB3.out.mono HW.out.size))
  obtain ⟨hz, z0, z1, z2, zf⟩ := OB.out.below HB3.out
  clear c2 hb h2 zb b0 b1 b2
  go_wp2
  exact bodyPost_ret (v := .tuple #[.agg #[.bool false, .slice none 0 0, .slice none 0 0], .int .i64 3]) (by simp [results, Tryz.results45, go_sem, z0, z1, z2]) rfl ⟨rfl, below_st HB.out (by omega)⟩

set_option maxRecDepth 100000 in
set_option maxHeartbeats 4000000 in
theorem docErr_c {w : World} {sa : Bool} {xa : Option Addr} {na ca : Nat} {fa : Nat → Int} {ya : Option Addr} {ma ea : Nat} {ga : Nat → Int} {sb : Bool} {xb : Option Addr} {nb cb : Nat} {fb : Nat → Int} {yb : Option Addr} {mb eb : Nat} {gb : Nat → Int} (ha : Rw w xa na ca fa ya ma ea ga) (hb : Rw w xb nb cb fb yb mb eb gb) (hna : na ≤ 1000) (hma : ma ≤ 1000) (hnb : nb ≤ 1000) (hmb : mb ≤ 1000) (kind : Int) (hp : (rfB sa fa na ga ma && rfB sb fb nb gb mb) = false) :
    Calls Tryz.prog 14 #[.int .i64 kind, .agg #[.bool sa, .slice xa na ca, .slice ya ma ea], .agg #[.bool sb, .slice xb nb cb, .slice yb mb eb]] w fun en w' => en = .returned (.tuple #[.agg #[.bool false, .slice none 0 0, .slice none 0 0], .int .i64 3]) ∧ Below w.heap.size w w' := by
  obtain ⟨h1, h2, h3, h4⟩ := qbox2 (w := w) (.bool sa) (.slice xa na ca) (.slice ya ma ea) (.bool sb) (.slice xb nb cb) (.slice yb mb eb) 24
  have h5 := ha.below h4
  have h6 := hb.below h4
  clear ha hb
  go_enter Tryz.func14, Tryz.ntmps14
  go_wp2_with fail
  generalize ((w.alloc (.cells #[.bool sa, .slice xa na ca, .slice ya ma ea] 24)).alloc (.cells #[.bool sb, .slice xb nb cb, .slice yb mb eb] 24)).alloc (.cells #[.bool false, .slice none 0 0, .slice none 0 0] 24) = w1 at *
  have HRA := hid h5; have HRB := hid h6; have HW := hid h4; have BA := hid h1; have BB := hid h2; have OB := hid h3
  clear h1 h2 h3 h4 h5 h6
  have c1 := qForm_c (s := sa) HRA.out (by omega) (by omega)
  cases h1 : rfB sa fa na ga ma
  · rw [h1] at c1
    refine c1.mono ?_
    rintro en w2 ⟨rfl, hb⟩
    have HB := hid (HW.out.trans (hb.mono HW.out.size))
    obtain ⟨hz, z0, z1, z2, zf⟩ := OB.out.below hb
    clear c1 hb hp
    go_wp2
    exact bodyPost_ret (v := .tuple #[.agg #[.bool false, .slice none 0 0, .slice none 0 0], .int .i64 3]) (by simp [results, Tryz.results14, go_sem, z0, z1, z2]) rfl ⟨rfl, below_st HB.out (by omega)⟩
  rw [h1] at c1
  refine c1.mono ?_
  rintro en w2 ⟨rfl, hb⟩
  have h2 : rfB sb fb nb gb mb = false := by rw [h1] at hp; simpa using hp
  have HB2 := hid hb
  clear c1 hb hp h1
  obtain ⟨zb, b0, b1, b2⟩ := BB.out.below HB2.out
  have c2 := qForm_c (s := sb) (HRB.out.below HB2.out) (by omega) (by omega)
  rw [h2] at c2
  go_wp2_with fail
  refine c2.mono ?_
  rintro en w3 ⟨rfl, hb⟩
  have HB3 := hid (HB2.out.trans (hb.mono HB2.out.size))
  have HB := hid (HW.out.trans (HB3.out.mono HW.out.size))
  obtain ⟨hz, z0, z1, z2, zf⟩ := OB.out.below HB3.out
  clear c2 hb h2 zb b0 b1 b2
  go_wp2
  exact bodyPost_ret (v := .tuple #[.agg #[.bool false, .slice none 0 0, .slice none 0 0], .int .i64 3]) (by simp [results, Tryz.results14, go_sem, z0, z1, z2]) rfl ⟨rfl, below_st HB.out (by omega)⟩

set_option maxRecDepth 100000 in
set_option maxHeartbeats 4000000 in
theorem rNegErr_c {w : World} {s : Bool} {x : Option Addr} {n c : Nat} {f : Nat → Int} {y : Option Addr} {m e : Nat} {g : Nat → Int} (h : Rw w x n c f y m e g) (hn : n ≤ 1000) (hm : m ≤ 1000) (hp : rfB s f n g m = false) :
    Calls Tryz.prog 15 #[.agg #[.bool s, .slice x n c, .slice y m e]] w fun en w' => en = .returned (.tuple #[.agg #[.bool false, .slice none 0 0, .slice none 0 0], .int .i64 3]) ∧ Below w.heap.size w w' := by
  obtain ⟨h1, h2, h3⟩ := qbox1 (w := w) (.bool s) (.slice x n c) (.slice y m e) 24 24
  have h5 := h.below h3
  clear h
  go_enter Tryz.func15, Tryz.ntmps15
  go_wp2_with fail
  generalize (w.alloc (.cells #[.bool s, .slice x n c, .slice y m e] 24)).alloc (.cells #[.bool false, .slice none 0 0, .slice none 0 0] 24) = w1 at *
  have HR := hid h5; have HW := hid h3; have BX := hid h1; have OB := hid h2
  clear h1 h2 h3 h5
  have c1 := rForm_c (s := s) HR.out (by omega) (by omega)
  rw [hp] at c1
  refine c1.mono ?_
  rintro en w2 ⟨rfl, hb⟩
  have HB := hid (HW.out.trans (hb.mono HW.out.size))
  obtain ⟨hz, z0, z1, z2, zf⟩ := OB.out.below hb
  clear c1 hb hp
  go_wp2
  exact bodyPost_ret (v := .tuple #[.agg #[.bool false, .slice none 0 0, .slice none 0 0], .int .i64 3]) (by simp [results, Tryz.results15, go_sem, z0, z1, z2]) rfl ⟨rfl, below_st HB.out (by omega)⟩

set_option maxRecDepth 100000 in
set_option maxHeartbeats 4000000 in
theorem docNegErr_c {w : World} {s : Bool} {x : Option Addr} {n c : Nat} {f : Nat → Int} {y : Option Addr} {m e : Nat} {g : Nat → Int} (h : Rw w x n c f y m e g) (hn : n ≤ 1000) (hm : m ≤ 1000) (hp : rfB s f n g m = false) :
    Calls Tryz.prog 16 #[.agg #[.bool s, .slice x n c, .slice y m e]] w fun en w' => en = .returned (.tuple #[.agg #[.bool false, .slice none 0 0, .slice none 0 0], .int .i64 3]) ∧ Below w.heap.size w w' := by
  obtain ⟨h1, h2, h3⟩ := qbox1 (w := w) (.bool s) (.slice x n c) (.slice y m e) 24 24
  have h5 := h.below h3
  clear h
  go_enter Tryz.func16, Tryz.ntmps16
  go_wp2_with fail
  generalize (w.alloc (.cells #[.bool s, .slice x n c, .slice y m e] 24)).alloc (.cells #[.bool false, .slice none 0 0, .slice none 0 0] 24) = w1 at *
  have HR := hid h5; have HW := hid h3; have BX := hid h1; have OB := hid h2
  clear h1 h2 h3 h5
  have c1 := qForm_c (s := s) HR.out (by omega) (by omega)
  rw [hp] at c1
  refine c1.mono ?_
  rintro en w2 ⟨rfl, hb⟩
  have HB := hid (HW.out.trans (hb.mono HW.out.size))
  obtain ⟨hz, z0, z1, z2, zf⟩ := OB.out.below hb
  clear c1 hb hp
  go_wp2
  exact bodyPost_ret (v := .tuple #[.agg #[.bool false, .slice none 0 0, .slice none 0 0], .int .i64 3]) (by simp [results, Tryz.results16, go_sem, z0, z1, z2]) rfl ⟨rfl, below_st HB.out (by omega)⟩

set_option maxRecDepth 100000 in
set_option maxHeartbeats 4000000 in
theorem docNegOk_c {w : World} {s : Bool} {x : Option Addr} {n c : Nat} {f : Nat → Int} {y : Option Addr} {m e : Nat} {g : Nat → Int} {q : Rat} (h : Rw w x n c f y m e g) (hq : Rn 100 w s x n c f y m e g q) :
    Calls Tryz.prog 16 #[.agg #[.bool s, .slice x n c, .slice y m e]] w fun en w' => ∃ s' x' n' c1 f' y' m' c2 g', en = .returned (.tuple #[.agg #[.bool s', .slice x' n' c1, .slice y' m' c2], .int .i64 0]) ∧ Below w.heap.size w w' ∧ Rn 1000 w' s' x' n' c1 f' y' m' c2 g' (-q) := by
  have hn := hq.ln; have hm := hq.ld
  have HQ0 := hid hq; have HP := hid hq.rf
  clear hq
  obtain ⟨h1, h2, h3⟩ := qbox1 (w := w) (.bool s) (.slice x n c) (.slice y m e) 24 24
  have h5 := h.below h3
  clear h
  go_enter Tryz.func16, Tryz.ntmps16
  go_wp2_with fail
  generalize (w.alloc (.cells #[.bool s, .slice x n c, .slice y m e] 24)).alloc (.cells #[.bool false, .slice none 0 0, .slice none 0 0] 24) = w1 at *
  have HR := hid h5; have HW := hid h3; have BX := hid h1; have OB := hid h2
  clear h1 h2 h3 h5
  have c1 := qForm_c (s := s) HR.out (by omega) (by omega)
  rw [HP.out] at c1
  refine c1.mono ?_
  rintro en w2 ⟨rfl, hb⟩
  have HB2 := hid hb
  have HBw := hid (HW.out.trans (hb.mono HW.out.size))
  clear c1 hb
  obtain ⟨z, x0, x1, x2⟩ := BX.out.below HB2.out
  go_wp2_with fail
  refine (qFrom_c (HQ0.out.below HBw.out) (by omega)).mono ?_
  rintro en w3 ⟨s3, x3, n3, c3, d3, y3, m3, e3, g3, rfl, hb, hl1, hl2, hq3⟩
  have HB3 := hid (HB2.out.trans (hb.mono HB2.out.size)); have Q3 := hid hq3
  clear hb hq3 z x0 x1 x2
  go_wp2_with fail
  refine (qNeg_c Q3.out (by omega)).mono ?_
  rintro en w4 ⟨s4, c4, rfl, hb, Q4⟩
  have HB4 := hid (HB3.out.trans (hb.mono HB3.out.size))
  clear hb
  go_wp2_with fail
  refine (qToR_c Q4.out (by omega) (by omega)).mono ?_
  rintro en w5 ⟨z5, k5, c5, f5, y5, m5, e5, g5, rfl, hb, R5⟩
  have HB5 := hid (HB4.out.trans (hb.mono HB4.out.size)); have HBl := hid (HW.out.trans ((HB4.out.trans (hb.mono HB4.out.size)).mono HW.out.size))
  clear hb
  obtain ⟨hz, z0, z1, z2, zf⟩ := OB.out.below HB5.out
  go_wp2
  exact bodyPost_ret (v := .tuple #[.agg #[.bool s4, .slice z5 k5 c5, .slice y5 m5 e5], .int .i64 0]) (by simp [results, Tryz.results16, go_sem, z0, z1, z2]) rfl ⟨s4, z5, k5, c5, f5, y5, m5, e5, g5, rfl, below_st HBl.out (by omega), (OB.out.below HB5.out).rn (R5.out.mono (by omega))⟩
end Go.Proofs.YtndiiknbkjlbiaaGreatDoor
namespace Go.Proofs.YtndiiknbkjlbiaaGreatDoor
open Go.RowKit

theorem zIntE_c {w : World} {z : Int} (h0 : -9223372036854775808 ≤ z) (h1 : z ≤ 9223372036854775807) :
    Calls Tryz.prog 81 #[.int .i64 z] w fun e w' => ∃ s x n c d, e = .returned (.agg #[.bool s, .slice x n c]) ∧ Below w.heap.size w w' ∧ Hid (n ≤ 2 ∧ Zn w' s x n d z) := by
  refine (zInt_c z w h0 h1).mono ?_
  rintro e w' ⟨s, x, n, c, d, rfl, h⟩
  have h2 := vd_nonneg h.dg
  have hv := h.val
  cases s
  · have hv' : vd d n = z := hv
    exact ⟨false, x, n, c, d, rfl, h.bel, h.le, ⟨h.rd, h.dg, h.fm, by omega⟩, by show z = (z.natAbs : Int); omega, h.sgn⟩
  · have hv' : - vd d n = z := hv
    exact ⟨true, x, n, c, d, rfl, h.bel, h.le, ⟨h.rd, h.dg, h.fm, by omega⟩, by show z = -(z.natAbs : Int); omega, h.sgn⟩

set_option maxRecDepth 100000 in
set_option maxHeartbeats 4000000 in
theorem qInt_c {w : World} {z : Int} (h0 : -9223372036854775808 ≤ z) (h1 : z ≤ 9223372036854775807) :
    Calls Tryz.prog 42 #[.int .i64 z] w fun e w' => QAns 2 w w' e (z : Rat) := by
  have h2 := ob_new w 72
  have h3 := below_alloc (Below.refl w.heap.size w) (.cells #[.bool false, .slice none 0 0, .slice none 0 0] 72)
  go_enter Tryz.func42, Tryz.ntmps42
  go_wp2_with fail
  generalize w.alloc (.cells #[.bool false, .slice none 0 0, .slice none 0 0] 72) = w1 at *
  have OB := hid h2; have HW := hid h3
  clear h2 h3
  refine (zIntE_c h0 h1).mono ?_
  rintro e w2 ⟨s2, x2, n2, c2, d2, rfl, hb, H2⟩
  have HB2 := hid hb
  clear hb
  go_wp2_with fail
  refine (dWord_c (V := 1) (by decide)).mono ?_
  rintro e w3 ⟨z3, k3, c3, d3, rfl, hb, H3⟩
  have HB3 := hid (HB2.out.trans (hb.mono HB2.out.size)); have Z3 := hid (H2.out.2.below hb)
  have hk3 := H3.out.1; have hn2 := H2.out.1
  clear hb
  obtain ⟨hz, z0, z1, z2, zf⟩ := OB.out.below HB3.out
  go_wp2
  refine bodyPost_ret (v := .agg #[.bool s2, .slice x2 n2 c2, .slice z3 k3 c3]) (by simp [results, Tryz.results42, go_sem, z0, z1, z2]) rfl ⟨s2, x2, n2, c2, d2, z3, k3, c3, d3, rfl, below_st (HW.out.trans (HB3.out.mono HW.out.size)) (by omega), by omega, by omega, (OB.out.below HB3.out).qn ⟨?_, ?_⟩⟩
  · rw [Rat.num_intCast]; exact Z3.out
  · rw [Rat.den_intCast]; exact H3.out.2

set_option maxRecDepth 100000 in
set_option maxHeartbeats 4000000 in
theorem docOfQ_c {w : World} {z : Int} (h0 : -9223372036854775808 ≤ z) (h1 : z ≤ 9223372036854775807) :
    Calls Tryz.prog 10 #[.int .i64 z] w fun e w' => RatAns 4 w w' e (z : Rat) := by
  have h2 := ob_new w 24
  have h3 := below_alloc (Below.refl w.heap.size w) (.cells #[.bool false, .slice none 0 0, .slice none 0 0] 24)
  go_enter Tryz.func10, Tryz.ntmps10
  go_wp2_with fail
  generalize w.alloc (.cells #[.bool false, .slice none 0 0, .slice none 0 0] 24) = w1 at *
  have OB := hid h2; have HW := hid h3
  clear h2 h3
  refine (qInt_c h0 h1).mono ?_
  rintro e w2 ⟨s2, x2, n2, c2, d2, y2, m2, e2, g2, rfl, hb, hl1, hl2, hq⟩
  have HB2 := hid hb; have HQ := hid hq
  clear hb hq
  go_wp2_with fail
  refine (qToR_c HQ.out (by omega) (by omega)).mono ?_
  rintro e w3 ⟨z3, k3, c3, f3, y3, m3, e3, g3, rfl, hb, R3⟩
  have HB3 := hid (HB2.out.trans (hb.mono HB2.out.size))
  clear hb
  obtain ⟨hz, z0, z1, z2, zf⟩ := OB.out.below HB3.out
  go_wp2
  exact bodyPost_ret (v := .agg #[.bool s2, .slice z3 k3 c3, .slice y3 m3 e3]) (by simp [results, Tryz.results10, go_sem, z0, z1, z2]) rfl ⟨s2, z3, k3, c3, f3, y3, m3, e3, g3, rfl, below_st (HW.out.trans (HB3.out.mono HW.out.size)) (by omega), (OB.out.below HB3.out).rn (R3.out.mono (by omega))⟩
end Go.Proofs.YtndiiknbkjlbiaaGreatDoor
namespace Go.Proofs.YtndiiknbkjlbiaaGreatDoor
open Go.RowKit

/-- The two numbers as the reference holds them. -/
structure WAt (w1 wx : World) (b8 b9 : Nat) (s5 : Bool) (x5 : Option Addr) (n5 c5 : Nat) (d5 : Nat → Int) (y5 : Option Addr) (m5 e5 : Nat) (g5 : Nat → Int) (s6 : Bool) (x6 : Option Addr) (n6 c6 : Nat) (d6 : Nat → Int) (y6 : Option Addr) (m6 e6 : Nat) (g6 : Nat → Int) (qa qb : Rat) : Prop where
  bx : Bx3 wx b8 (.bool s5) (.slice x5 n5 c5) (.slice y5 m5 e5)
  by' : Bx3 wx b9 (.bool s6) (.slice x6 n6 c6) (.slice y6 m6 e6)
  bel : Below w1.heap.size w1 wx
  za : Qn wx s5 x5 n5 d5 y5 m5 g5 qa
  zb : Qn wx s6 x6 n6 d6 y6 m6 g6 qb
  l5 : n5 ≤ 200 ∧ m5 ≤ 200
  l6 : n6 ≤ 200 ∧ m6 ≤ 200
theorem size_st3 (w : World) (B : Nat) (u0 u1 u2 : Value) : (((w.setCell ⟨B, 0, none⟩ u0).setCell ⟨B, 1, none⟩ u1).setCell ⟨B, 2, none⟩ u2).heap.size = w.heap.size := by simp [World.setCell]
theorem Ob.put {w B} (h : Ob w B) (u0 u1 u2 : Value) : Bx3 (((w.setCell ⟨B, 0, none⟩ u0).setCell ⟨B, 1, none⟩ u1).setCell ⟨B, 2, none⟩ u2) B u0 u1 u2 :=
  ⟨by rw [size_st3]; exact h.z, kCo (by decide) (kCo (by decide) (kCe (kI0 h.z0))), kCo (by decide) (kCe (kIs (kI0 h.z1))), kCe (kIs (kIs (kI0 h.z2)))⟩
theorem Ob.far {w B B' u0 u1 u2} (h : Ob w B) (hB : B' ≠ B) : Ob (((w.setCell ⟨B', 0, none⟩ u0).setCell ⟨B', 1, none⟩ u1).setCell ⟨B', 2, none⟩ u2) B := ⟨by rw [size_st3]; exact h.z, kCs hB (kCs hB (kCs hB h.z0)), kCs hB (kCs hB (kCs hB h.z1)), kCs hB (kCs hB (kCs hB h.z2)), fun o => kFs (kFs (kFs (h.zf o)))⟩
theorem Bx3.far {w B B' u0 u1 u2 a0 a1 a2} (h : Bx3 w B a0 a1 a2) (hB : B' ≠ B) : Bx3 (((w.setCell ⟨B', 0, none⟩ u0).setCell ⟨B', 1, none⟩ u1).setCell ⟨B', 2, none⟩ u2) B a0 a1 a2 := ⟨by rw [size_st3]; exact h.z, kCs hB (kCs hB (kCs hB h.x0)), kCs hB (kCs hB (kCs hB h.x1)), kCs hB (kCs hB (kCs hB h.x2))⟩
theorem bx3_next (w : World) (o : Obj) (a0 a1 a2 : Value) (t : TypeId) : Bx3 ((w.alloc o).alloc (.cells #[a0, a1, a2] t)) (w.heap.size + 1) a0 a1 a2 := by
  have := bx3_at (w.alloc o) a0 a1 a2 t
  rw [size_alloc1] at this; exact this
theorem bx3_st (w : World) (B : Nat) (u0 u1 u2 a0 a1 a2 : Value) (t : TypeId) : Bx3 ((((w.setCell ⟨B, 0, none⟩ u0).setCell ⟨B, 1, none⟩ u1).setCell ⟨B, 2, none⟩ u2).alloc (.cells #[a0, a1, a2] t)) w.heap.size a0 a1 a2 := by
  have := bx3_at (((w.setCell ⟨B, 0, none⟩ u0).setCell ⟨B, 1, none⟩ u1).setCell ⟨B, 2, none⟩ u2) a0 a1 a2 t
  rw [size_st3] at this; exact this
theorem ob_at {w : World} {t : TypeId} {B : Nat} (h : B = w.heap.size) : Ob (w.alloc (.cells #[.bool false, .slice none 0 0, .slice none 0 0] t)) B := by subst h; exact ob_new w t
theorem kObA {w : World} {B : Nat} {o : Obj} (h : Ob w B) : Ob (w.alloc o) B := h.alloc o
theorem kQa {w s x n d y m g q} {o : Obj} (h : Qn w s x n d y m g q) : Qn (w.alloc o) s x n d y m g q := h.alloc o
theorem wat_aa {w1 v : World} {s5 : Bool} {x5 : Option Addr} {n5 c5 : Nat} {d5 : Nat → Int} {y5 : Option Addr} {m5 e5 : Nat} {g5 : Nat → Int} {s6 : Bool} {x6 : Option Addr} {n6 c6 : Nat} {d6 : Nat → Int} {y6 : Option Addr} {m6 e6 : Nat} {g6 : Nat → Int} {qa qb : Rat} {t : TypeId} (hb : Below w1.heap.size w1 v) (h5 : n5 ≤ 200 ∧ m5 ≤ 200 ∧ Qn v s5 x5 n5 d5 y5 m5 g5 qa) (h6 : n6 ≤ 200 ∧ m6 ≤ 200 ∧ Qn v s6 x6 n6 d6 y6 m6 g6 qb) : WAt w1 ((v.alloc (.cells #[.bool s5, .slice x5 n5 c5, .slice y5 m5 e5] t)).alloc (.cells #[.bool s6, .slice x6 n6 c6, .slice y6 m6 e6] t)) v.heap.size (v.heap.size + 1) s5 x5 n5 c5 d5 y5 m5 e5 g5 s6 x6 n6 c6 d6 y6 m6 e6 g6 qa qb :=
  ⟨(bx3_at _ _ _ _ _).alloc _, bx3_next _ _ _ _ _ _, below_alloc (below_alloc hb _) _, (h5.2.2.alloc _).alloc _, (h6.2.2.alloc _).alloc _, ⟨h5.1, h5.2.1⟩, ⟨h6.1, h6.2.1⟩⟩
theorem wat_ab {w1 v : World} {s5 : Bool} {x5 : Option Addr} {n5 c5 : Nat} {d5 : Nat → Int} {y5 : Option Addr} {m5 e5 : Nat} {g5 : Nat → Int} {s6 : Bool} {x6 : Option Addr} {n6 c6 : Nat} {d6 : Nat → Int} {y6 : Option Addr} {m6 e6 : Nat} {g6 : Nat → Int} {qa qb : Rat} {t : TypeId} (hb : Below w1.heap.size w1 v) (h5 : n5 ≤ 200 ∧ m5 ≤ 200 ∧ Qn v s5 x5 n5 d5 y5 m5 g5 qa) (h6 : n6 ≤ 200 ∧ m6 ≤ 200 ∧ Qn v s6 x6 n6 d6 y6 m6 g6 qb) : WAt w1 ((v.alloc (.cells #[.bool s6, .slice x6 n6 c6, .slice y6 m6 e6] t)).alloc (.cells #[.bool s5, .slice x5 n5 c5, .slice y5 m5 e5] t)) (v.heap.size + 1) v.heap.size s5 x5 n5 c5 d5 y5 m5 e5 g5 s6 x6 n6 c6 d6 y6 m6 e6 g6 qa qb :=
  ⟨bx3_next _ _ _ _ _ _, (bx3_at _ _ _ _ _).alloc _, below_alloc (below_alloc hb _) _, (h5.2.2.alloc _).alloc _, (h6.2.2.alloc _).alloc _, ⟨h5.1, h5.2.1⟩, ⟨h6.1, h6.2.1⟩⟩
theorem wat_sa {w1 v : World} {s5 : Bool} {x5 : Option Addr} {n5 c5 : Nat} {d5 : Nat → Int} {y5 : Option Addr} {m5 e5 : Nat} {g5 : Nat → Int} {s6 : Bool} {x6 : Option Addr} {n6 c6 : Nat} {d6 : Nat → Int} {y6 : Option Addr} {m6 e6 : Nat} {g6 : Nat → Int} {qa qb : Rat} {b8 : Nat} {t : TypeId} (hb : Below w1.heap.size w1 v) (h5 : n5 ≤ 200 ∧ m5 ≤ 200 ∧ Qn v s5 x5 n5 d5 y5 m5 g5 qa) (h6 : n6 ≤ 200 ∧ m6 ≤ 200 ∧ Qn v s6 x6 n6 d6 y6 m6 g6 qb) (h8 : Ob v b8) (o8 : w1.heap.size ≤ b8) : WAt w1 (((((v).setCell ⟨b8, 0, none⟩ (.bool s5)).setCell ⟨b8, 1, none⟩ (.slice x5 n5 c5)).setCell ⟨b8, 2, none⟩ (.slice y5 m5 e5)).alloc (.cells #[.bool s6, .slice x6 n6 c6, .slice y6 m6 e6] t)) b8 v.heap.size s5 x5 n5 c5 d5 y5 m5 e5 g5 s6 x6 n6 c6 d6 y6 m6 e6 g6 qa qb :=
  ⟨(h8.put _ _ _).alloc _, bx3_st _ _ _ _ _ _ _ _ _, below_alloc (below_st hb o8) _, (h8.qn h5.2.2).alloc _, (h8.qn h6.2.2).alloc _, ⟨h5.1, h5.2.1⟩, ⟨h6.1, h6.2.1⟩⟩
theorem wat_as {w1 v : World} {s5 : Bool} {x5 : Option Addr} {n5 c5 : Nat} {d5 : Nat → Int} {y5 : Option Addr} {m5 e5 : Nat} {g5 : Nat → Int} {s6 : Bool} {x6 : Option Addr} {n6 c6 : Nat} {d6 : Nat → Int} {y6 : Option Addr} {m6 e6 : Nat} {g6 : Nat → Int} {qa qb : Rat} {b9 : Nat} {t : TypeId} (hb : Below w1.heap.size w1 v) (h5 : n5 ≤ 200 ∧ m5 ≤ 200 ∧ Qn v s5 x5 n5 d5 y5 m5 g5 qa) (h6 : n6 ≤ 200 ∧ m6 ≤ 200 ∧ Qn v s6 x6 n6 d6 y6 m6 g6 qb) (h9 : Ob v b9) (o9 : w1.heap.size ≤ b9) : WAt w1 (((((v).setCell ⟨b9, 0, none⟩ (.bool s6)).setCell ⟨b9, 1, none⟩ (.slice x6 n6 c6)).setCell ⟨b9, 2, none⟩ (.slice y6 m6 e6)).alloc (.cells #[.bool s5, .slice x5 n5 c5, .slice y5 m5 e5] t)) v.heap.size b9 s5 x5 n5 c5 d5 y5 m5 e5 g5 s6 x6 n6 c6 d6 y6 m6 e6 g6 qa qb :=
  ⟨bx3_st _ _ _ _ _ _ _ _ _, (h9.put _ _ _).alloc _, below_alloc (below_st hb o9) _, (h9.qn h5.2.2).alloc _, (h9.qn h6.2.2).alloc _, ⟨h5.1, h5.2.1⟩, ⟨h6.1, h6.2.1⟩⟩
theorem wat_ss {w1 v : World} {s5 : Bool} {x5 : Option Addr} {n5 c5 : Nat} {d5 : Nat → Int} {y5 : Option Addr} {m5 e5 : Nat} {g5 : Nat → Int} {s6 : Bool} {x6 : Option Addr} {n6 c6 : Nat} {d6 : Nat → Int} {y6 : Option Addr} {m6 e6 : Nat} {g6 : Nat → Int} {qa qb : Rat} {b8 b9 : Nat} (hb : Below w1.heap.size w1 v) (h5 : n5 ≤ 200 ∧ m5 ≤ 200 ∧ Qn v s5 x5 n5 d5 y5 m5 g5 qa) (h6 : n6 ≤ 200 ∧ m6 ≤ 200 ∧ Qn v s6 x6 n6 d6 y6 m6 g6 qb) (h8 : Ob v b8) (o8 : w1.heap.size ≤ b8) (h9 : Ob v b9) (o9 : w1.heap.size ≤ b9) (hne : b9 ≠ b8) : WAt w1 (((((((v).setCell ⟨b8, 0, none⟩ (.bool s5)).setCell ⟨b8, 1, none⟩ (.slice x5 n5 c5)).setCell ⟨b8, 2, none⟩ (.slice y5 m5 e5)).setCell ⟨b9, 0, none⟩ (.bool s6)).setCell ⟨b9, 1, none⟩ (.slice x6 n6 c6)).setCell ⟨b9, 2, none⟩ (.slice y6 m6 e6)) b8 b9 s5 x5 n5 c5 d5 y5 m5 e5 g5 s6 x6 n6 c6 d6 y6 m6 e6 g6 qa qb :=
  ⟨(h8.put _ _ _).far hne, (h9.far hne.symm).put _ _ _, below_st (below_st hb o8) o9, (h9.far hne.symm).qn (h8.qn h5.2.2), (h9.far hne.symm).qn (h8.qn h6.2.2), ⟨h5.1, h5.2.1⟩, ⟨h6.1, h6.2.1⟩⟩
def kq (kind : Nat) (a b : Rat) : Rat := if kind = 0 then a + b else if kind = 1 then a - b else if kind = 2 then a * b else a / b
/-- What Doc answers, of numbers in form. -/
def DocQ (kind : Nat) (qa qb : Rat) (w w' : World) (en : Ending) : Prop := ∃ s x n c f y m d g er, en = .returned (.tuple #[.agg #[.bool s, .slice x n c, .slice y m d], .int .i64 er]) ∧ Below w.heap.size w w' ∧ ((kind = 3 ∧ qb.num = 0) ∧ er = 4 ∧ n = 0 ∧ m = 0 ∧ s = false ∨ ¬ (kind = 3 ∧ qb.num = 0) ∧ er = 0 ∧ Rn 2000 w' s x n c f y m d g (kq kind qa qb))

set_option maxRecDepth 100000 in
set_option maxHeartbeats 16000000 in
theorem docOk_c {w : World} {sa : Bool} {xa : Option Addr} {na ca : Nat} {fa : Nat → Int} {ya : Option Addr} {ma ea : Nat} {ga : Nat → Int} {sb : Bool} {xb : Option Addr} {nb cb : Nat} {fb : Nat → Int} {yb : Option Addr} {mb eb : Nat} {gb : Nat → Int} (ha : Rw w xa na ca fa ya ma ea ga) (hb : Rw w xb nb cb fb yb mb eb gb) (hna : na ≤ 1000) (hma : ma ≤ 1000) (hnb : nb ≤ 1000) (hmb : mb ≤ 1000) {qa qb : Rat} (kind : Nat) (hk : kind < 4) (hqa : Rn 100 w sa xa na ca fa ya ma ea ga qa) (hqb : Rn 100 w sb xb nb cb fb yb mb eb gb qb) :
    Calls Tryz.prog 14 #[.int .i64 kind, .agg #[.bool sa, .slice xa na ca, .slice ya ma ea], .agg #[.bool sb, .slice xb nb cb, .slice yb mb eb]] w fun en w' => DocQ kind qa qb w w' en := by
  have HQA0 := hid hqa; have HQB0 := hid hqb
  have FA := hid hqa.rf; have FB := hid hqb.rf
  clear hqa hqb
  obtain ⟨h1, h2, h3, h4⟩ := qbox2 (w := w) (.bool sa) (.slice xa na ca) (.slice ya ma ea) (.bool sb) (.slice xb nb cb) (.slice yb mb eb) 24
  have h5 := ha.below h4
  have h6 := hb.below h4
  clear ha hb
  go_enter Tryz.func14, Tryz.ntmps14
  go_wp2_with fail
  generalize ((w.alloc (.cells #[.bool sa, .slice xa na ca, .slice ya ma ea] 24)).alloc (.cells #[.bool sb, .slice xb nb cb, .slice yb mb eb] 24)).alloc (.cells #[.bool false, .slice none 0 0, .slice none 0 0] 24) = w1 at *
  have HRA := hid h5; have HRB := hid h6; have HW := hid h4; have BA := hid h1; have BB := hid h2; have OB := hid h3
  clear h1 h2 h3 h4 h5 h6
  have c1 := qForm_c (s := sa) HRA.out (by omega) (by omega)
  rw [FA.out] at c1
  refine c1.mono ?_
  rintro en w2 ⟨rfl, hb⟩
  have HB2 := hid hb
  clear c1 hb
  obtain ⟨zb, b0, b1, b2⟩ := BB.out.below HB2.out
  have c2 := qForm_c (s := sb) (HRB.out.below HB2.out) (by omega) (by omega)
  rw [FB.out] at c2
  go_wp2_with fail
  refine c2.mono ?_
  rintro en w3 ⟨rfl, hb⟩
  have HB3 := hid (HB2.out.trans (hb.mono HB2.out.size))
  clear c2 hb zb b0 b1 b2
  obtain ⟨za, a0, a1, a2⟩ := BA.out.below HB3.out
  obtain ⟨zb, b0, b1, b2⟩ := BB.out.below HB3.out
  have HWA := hid (HW.out.trans (HB3.out.mono HW.out.size))
  have hzw := (OB.out.below HB3.out).z
  have C1 : Hid (∀ W, Below w3.heap.size w3 W → Calls Tryz.prog 47 #[.agg #[.bool sa, .slice xa na ca, .slice ya ma ea]] W fun en w' => ∃ s x n c d y m c' g, en = .returned (.agg #[.bool s, .slice x n c, .slice y m c']) ∧ Below W.heap.size W w' ∧ Hid (n ≤ 200 ∧ m ≤ 200 ∧ Qn w' s x n d y m g qa)) := fun W hW => (qFrom_c ((HQA0.out.below HWA.out).below hW) (by omega)).mono (fun _ _ ⟨s, x, n, c, d, y, m, c', g, k1, k2, k3, k4, k5⟩ => ⟨s, x, n, c, d, y, m, c', g, k1, k2, k3, k4, k5⟩)
  have C2 : Hid (∀ W, Below w3.heap.size w3 W → Calls Tryz.prog 47 #[.agg #[.bool sb, .slice xb nb cb, .slice yb mb eb]] W fun en w' => ∃ s x n c d y m c' g, en = .returned (.agg #[.bool s, .slice x n c, .slice y m c']) ∧ Below W.heap.size W w' ∧ Hid (n ≤ 200 ∧ m ≤ 200 ∧ Qn w' s x n d y m g qb)) := fun W hW => (qFrom_c ((HQB0.out.below HWA.out).below hW) (by omega)).mono (fun _ _ ⟨s, x, n, c, d, y, m, c', g, k1, k2, k3, k4, k5⟩ => ⟨s, x, n, c, d, y, m, c', g, k1, k2, k3, k4, k5⟩)
  go_upto_region 3 with fail
  go_cut [8, 9] from 19 to 22 (fun p1 q1 wx => ∃ (wy : World) (b8 b9 : Nat) (s5 : Bool) (x5 : Option Addr) (n5 c5 : Nat) (d5 : Nat → Int) (y5 : Option Addr) (m5 e5 : Nat) (g5 : Nat → Int) (s6 : Bool) (x6 : Option Addr) (n6 c6 : Nat) (d6 : Nat → Int) (y6 : Option Addr) (m6 e6 : Nat) (g6 : Nat → Int), wy = wx ∧ p1 = .pointer (some ⟨b8, 0, none⟩) ∧ q1 = .pointer (some ⟨b9, 0, none⟩) ∧ WAt w3 wy b8 b9 s5 x5 n5 c5 d5 y5 m5 e5 g5 s6 x6 n6 c6 d6 y6 m6 e6 g6 qa qb)
  case first =>
    go_region_held3 (fun w' => w'.cell? ⟨w.heap.size, 0, none⟩ = some (.bool sa) ∧ w'.cell? ⟨w.heap.size, 1, none⟩ = some (.slice xa na ca) ∧ w'.cell? ⟨w.heap.size, 2, none⟩ = some (.slice ya ma ea) ∧ w'.cell? ⟨w.heap.size + 1, 0, none⟩ = some (.bool sb) ∧ w'.cell? ⟨w.heap.size + 1, 1, none⟩ = some (.slice xb nb cb) ∧ w'.cell? ⟨w.heap.size + 1, 2, none⟩ = some (.slice yb mb eb))
      (refine ⟨?_, ?_, ?_, ?_, ?_, ?_⟩ <;> repeat (with_reducible first | assumption | refine kCd ?_ | refine kCa ?_ | refine kCs (by simp only [ne_eq]; omega) ?_ | refine kCb (by assumption) ?_))
      (first
        | (go_at_call 47; with_reducible refine (C1.out _ (by repeat (with_reducible first | assumption | exact Below.refl _ _ | refine Below.drew ?_ | refine kBa ?_ | refine kBb (by assumption) ?_))).mono ?_; rintro e v5 ⟨s5, x5, n5, c5, d5, y5, m5, e5, g5, rfl, hb5, H5⟩; have hzi := hb5.size; (try simp at hzi); obtain ⟨hc5, hf5⟩ := bcell hb5; (try have q100 : w3.heap.size < v5.heap.size := by omega); (try have q101 : w3.heap.size + 1 < v5.heap.size := by omega))
        | (go_at_call 47; with_reducible refine (C2.out _ (by repeat (with_reducible first | assumption | exact Below.refl _ _ | refine Below.drew ?_ | refine kBa ?_ | refine kBb (by assumption) ?_))).mono ?_; rintro e v6 ⟨s6, x6, n6, c6, d6, y6, m6, e6, g6, rfl, hb6, H6⟩; have hzj := hb6.size; (try simp at hzj); obtain ⟨hc6, hf6⟩ := bcell hb6; (try have q100 : w3.heap.size < v6.heap.size := by omega); (try have q101 : w3.heap.size + 1 < v6.heap.size := by omega); (try have q102 : v5.heap.size < v6.heap.size := by omega); (try have q103 : v5.heap.size + 1 < v6.heap.size := by omega)))
    all_goals
      go_wp2_with fail
      go_meet
      have QQ5 : Qn v6 s5 x5 n5 d5 y5 m5 g5 qa := (by repeat (with_reducible first | exact H5.out.2.2 | refine kQd ?_ | refine kQa ?_ | refine kQb (by assumption) ?_))
      have hbl : Below w3.heap.size w3 v6 := (by repeat (with_reducible first | assumption | exact Below.refl _ _ | refine Below.drew ?_ | refine kBa ?_ | refine kBb (by assumption) ?_))
      refine ⟨_, _, _, s5, x5, n5, c5, d5, y5, m5, e5, g5, s6, x6, n6, c6, d6, y6, m6, e6, g6, rfl, rfl, rfl, ?_⟩
      clear C1 C2
      with_reducible first
        | exact wat_aa hbl ⟨H5.out.1, H5.out.2.1, QQ5⟩ H6.out
        | exact wat_ab hbl ⟨H5.out.1, H5.out.2.1, QQ5⟩ H6.out
        | exact wat_sa hbl ⟨H5.out.1, H5.out.2.1, QQ5⟩ H6.out (by repeat (with_reducible first | exact ob_at rfl | exact ob_at (size_alloc1 _ _).symm | refine kOb hb6 ?_ | refine kOb hb5 ?_ | refine Ob.drew ?_ | refine kObA ?_)) (by omega)
        | exact wat_as hbl ⟨H5.out.1, H5.out.2.1, QQ5⟩ H6.out (by repeat (with_reducible first | exact ob_at rfl | exact ob_at (size_alloc1 _ _).symm | refine kOb hb6 ?_ | refine kOb hb5 ?_ | refine Ob.drew ?_ | refine kObA ?_)) (by omega)
        | exact wat_ss hbl ⟨H5.out.1, H5.out.2.1, QQ5⟩ H6.out (by repeat (with_reducible first | exact ob_at rfl | exact ob_at (size_alloc1 _ _).symm | refine kOb hb6 ?_ | refine kOb hb5 ?_ | refine Ob.drew ?_ | refine kObA ?_)) (by omega) (by repeat (with_reducible first | exact ob_at rfl | exact ob_at (size_alloc1 _ _).symm | refine kOb hb6 ?_ | refine kOb hb5 ?_ | refine Ob.drew ?_ | refine kObA ?_)) (by omega) (by omega)
  case rest =>
    obtain ⟨w9, b8, b9, s5, x5, n5, c5, d5, y5, m5, e5, g5, s6, x6, n6, c6, d6, y6, m6, e6, g6, rfl, rfl, rfl, hb8, hb9, hb, hza, hzb, hl5, hl6⟩ := hcut
    have HBx := hid (HB3.out.trans (hb.mono HB3.out.size)); have ZA := hid hza; have ZB := hid hzb
    have HB3 := HBx
    obtain ⟨l5, l5'⟩ := hl5
    obtain ⟨l6, l6'⟩ := hl6
    clear hb hza hzb C1 C2 za a0 a1 a2 zb b0 b1 b2 HBx
    obtain ⟨za, a0, a1, a2⟩ := hb8
    obtain ⟨zb, b0, b1, b2⟩ := hb9
    by_cases h3 : kind = 3
    · subst h3
      by_cases hq0 : qb.num = 0
      · have HQ0 := hid hq0
        clear hq0
        go_wp2_with fail
        refine (qSign_c ZB.out (by omega)).mono ?_
        rintro en w4 ⟨cc, rfl, hb, ho⟩
        have hcc : cc = 0 := by have := HQ0.out; rw [this] at ho; unfold Ord at ho; omega
        subst hcc
        have HB5 := hid (HB3.out.trans (hb.mono HB3.out.size))
        clear hb ho za a0 a1 a2 zb b0 b1 b2
        obtain ⟨hz, z0, z1, z2, zf⟩ := OB.out.below HB5.out
        go_wp2
        exact bodyPost_ret (v := .tuple #[.agg #[.bool false, .slice none 0 0, .slice none 0 0], .int .i64 4]) (by simp [results, Tryz.results14, go_sem, z0, z1, z2]) rfl ⟨false, none, 0, 0, fun _ => 0, none, 0, 0, fun _ => 0, 4, rfl, below_st (HW.out.trans (HB5.out.mono HW.out.size)) (by omega), .inl ⟨⟨rfl, HQ0.out⟩, rfl, rfl, rfl, rfl⟩⟩
      · have HQ0 := hid hq0
        clear hq0
        go_wp2_with fail
        refine (qSign_c ZB.out (by omega)).mono ?_
        rintro en w4 ⟨cc, rfl, hb, ho⟩
        have hcc : (cc == 0) = false := by
          have := HQ0.out
          unfold Ord at ho
          simp; omega
        have HB6 := hid (HB3.out.trans (hb.mono HB3.out.size)); have ZA4 := hid (ZA.out.below hb); have ZB4 := hid (ZB.out.below hb)
        obtain ⟨za, a0, a1, a2⟩ := (⟨za, a0, a1, a2⟩ : Bx3 _ b8 _ _ _).below hb
        obtain ⟨zb, b0, b1, b2⟩ := (⟨zb, b0, b1, b2⟩ : Bx3 _ b9 _ _ _).below hb
        clear hb ho HB3 ZA ZB
        have HB3 := HB6; have ZA := ZA4; have ZB := ZB4
        go_wp2_with fail
        refine (qQuo_c ZA.out ZB.out (by omega) (by omega) (by omega) (by omega) HQ0.out).mono ?_
        rintro en w4 ⟨s4, x4, n4, c4, d4, y4, m4, e4, g4, rfl, hb, hl1, hl2, hq⟩
        have HB4 := hid (HB3.out.trans (hb.mono HB3.out.size)); have Q4 := hid hq
        clear hb hq za a0 a1 a2 zb b0 b1 b2
        go_wp2_with fail
        refine (qToR_c Q4.out (by omega) (by omega)).mono ?_
        rintro en w5 ⟨z5, k5, c5, f5, y5, m5, e5, g5, rfl, hb, R5⟩
        have HB5 := hid (HB4.out.trans (hb.mono HB4.out.size))
        clear hb
        obtain ⟨hz, z0, z1, z2, zf⟩ := OB.out.below HB5.out
        go_wp2
        exact bodyPost_ret (v := .tuple #[.agg #[.bool s4, .slice z5 k5 c5, .slice y5 m5 e5], .int .i64 0]) (by simp [results, Tryz.results14, go_sem, z0, z1, z2]) rfl ⟨s4, z5, k5, c5, f5, y5, m5, e5, g5, 0, rfl, below_st (HW.out.trans (HB5.out.mono HW.out.size)) (by omega), .inr ⟨fun h => HQ0.out h.2, rfl, (OB.out.below HB5.out).rn (R5.out.mono (by omega))⟩⟩
    rcases (show kind = 0 ∨ kind = 1 ∨ kind = 2 by omega) with rfl | rfl | rfl
    · go_wp2_with fail
      refine (qAdd_c ZA.out ZB.out (by omega) (by omega) (by omega) (by omega)).mono ?_
      rintro en w4 ⟨s4, x4, n4, c4, d4, y4, m4, e4, g4, rfl, hb, hl1, hl2, hq⟩
      have HB4 := hid (HB3.out.trans (hb.mono HB3.out.size)); have Q4 := hid hq
      clear hb hq za a0 a1 a2 zb b0 b1 b2
      go_wp2_with fail
      refine (qToR_c Q4.out (by omega) (by omega)).mono ?_
      rintro en w5 ⟨z5, k5, c5, f5, y5, m5, e5, g5, rfl, hb, R5⟩
      have HB5 := hid (HB4.out.trans (hb.mono HB4.out.size))
      clear hb
      obtain ⟨hz, z0, z1, z2, zf⟩ := OB.out.below HB5.out
      go_wp2
      exact bodyPost_ret (v := .tuple #[.agg #[.bool s4, .slice z5 k5 c5, .slice y5 m5 e5], .int .i64 0]) (by simp [results, Tryz.results14, go_sem, z0, z1, z2]) rfl ⟨s4, z5, k5, c5, f5, y5, m5, e5, g5, 0, rfl, below_st (HW.out.trans (HB5.out.mono HW.out.size)) (by omega), .inr ⟨fun h => by omega, rfl, (OB.out.below HB5.out).rn (R5.out.mono (by omega))⟩⟩
    · go_wp2_with fail
      refine (qSub_c ZA.out ZB.out (by omega) (by omega) (by omega) (by omega)).mono ?_
      rintro en w4 ⟨s4, x4, n4, c4, d4, y4, m4, e4, g4, rfl, hb, hl1, hl2, hq⟩
      have HB4 := hid (HB3.out.trans (hb.mono HB3.out.size)); have Q4 := hid hq
      clear hb hq za a0 a1 a2 zb b0 b1 b2
      go_wp2_with fail
      refine (qToR_c Q4.out (by omega) (by omega)).mono ?_
      rintro en w5 ⟨z5, k5, c5, f5, y5, m5, e5, g5, rfl, hb, R5⟩
      have HB5 := hid (HB4.out.trans (hb.mono HB4.out.size))
      clear hb
      obtain ⟨hz, z0, z1, z2, zf⟩ := OB.out.below HB5.out
      go_wp2
      exact bodyPost_ret (v := .tuple #[.agg #[.bool s4, .slice z5 k5 c5, .slice y5 m5 e5], .int .i64 0]) (by simp [results, Tryz.results14, go_sem, z0, z1, z2]) rfl ⟨s4, z5, k5, c5, f5, y5, m5, e5, g5, 0, rfl, below_st (HW.out.trans (HB5.out.mono HW.out.size)) (by omega), .inr ⟨fun h => by omega, rfl, (OB.out.below HB5.out).rn (R5.out.mono (by omega))⟩⟩
    · go_wp2_with fail
      refine (qMul_c ZA.out ZB.out (by omega) (by omega) (by omega) (by omega)).mono ?_
      rintro en w4 ⟨s4, x4, n4, c4, d4, y4, m4, e4, g4, rfl, hb, hl1, hl2, hq⟩
      have HB4 := hid (HB3.out.trans (hb.mono HB3.out.size)); have Q4 := hid hq
      clear hb hq za a0 a1 a2 zb b0 b1 b2
      go_wp2_with fail
      refine (qToR_c Q4.out (by omega) (by omega)).mono ?_
      rintro en w5 ⟨z5, k5, c5, f5, y5, m5, e5, g5, rfl, hb, R5⟩
      have HB5 := hid (HB4.out.trans (hb.mono HB4.out.size))
      clear hb
      obtain ⟨hz, z0, z1, z2, zf⟩ := OB.out.below HB5.out
      go_wp2
      exact bodyPost_ret (v := .tuple #[.agg #[.bool s4, .slice z5 k5 c5, .slice y5 m5 e5], .int .i64 0]) (by simp [results, Tryz.results14, go_sem, z0, z1, z2]) rfl ⟨s4, z5, k5, c5, f5, y5, m5, e5, g5, 0, rfl, below_st (HW.out.trans (HB5.out.mono HW.out.size)) (by omega), .inr ⟨fun h => by omega, rfl, (OB.out.below HB5.out).rn (R5.out.mono (by omega))⟩⟩
end Go.Proofs.YtndiiknbkjlbiaaGreatDoor
namespace Go.Proofs.YtndiiknbkjlbiaaGreatDoor
open Go.RowKit

/-- What a call of the four kinds answers. -/
def OQ (p : Bool) (kind : Nat) (qa qb : Rat) (w' : World) (s : Bool) (x : Option Addr) (n c : Nat) (f : Nat → Int) (y : Option Addr) (m d : Nat) (g : Nat → Int) (er : Int) : Prop :=
  p = false ∧ er = 3 ∧ n = 0 ∧ m = 0 ∧ s = false ∨ p = true ∧ (kind = 3 ∧ qb.num = 0) ∧ er = 4 ∧ n = 0 ∧ m = 0 ∧ s = false ∨ p = true ∧ ¬ (kind = 3 ∧ qb.num = 0) ∧ er = 0 ∧ Rn 2000 w' s x n c f y m d g (kq kind qa qb)
theorem OQ.st {p kind qa qb w' s x n c f y m d g er B u0 u1 u2} (h : OQ p kind qa qb w' s x n c f y m d g er) (hB : Ob w' B) : OQ p kind qa qb (((w'.setCell ⟨B, 0, none⟩ u0).setCell ⟨B, 1, none⟩ u1).setCell ⟨B, 2, none⟩ u2) s x n c f y m d g er := by
  rcases h with h | h | ⟨h1, h2, h3, h4⟩
  · exact .inl h
  · exact .inr (.inl h)
  · exact .inr (.inr ⟨h1, h2, h3, hB.rn h4⟩)
theorem Rn.num_zero {L w s x n c f y m d g q} (h : Rn L w s x n c f y m d g q) : q.num = 0 ↔ n = 0 := by
  constructor
  · intro h0
    rcases Nat.eq_zero_or_pos n with hn | hn
    · exact hn
    · have h1 := vf_pos h.num.lm (fm_of_wfB h.num.wf) hn
      have h2 := h.num.val
      cases s
      · rw [wv_false] at h2; omega
      · rw [wv_true] at h2; omega
  · intro hn
    subst hn
    have h2 := h.num.val
    cases s
    · rw [wv_false] at h2; exact h2.symm
    · rw [wv_true] at h2; have : -(0 : Int) = q.num := h2; omega

set_option maxRecDepth 100000 in
set_option maxHeartbeats 4000000 in
theorem rQuoZero_c {w : World} {sa : Bool} {xa : Option Addr} {na ca : Nat} {fa : Nat → Int} {ya : Option Addr} {ma ea : Nat} {ga : Nat → Int} {sb : Bool} {xb : Option Addr} {nb cb : Nat} {fb : Nat → Int} {yb : Option Addr} {mb eb : Nat} {gb : Nat → Int} (ha : Rw w xa na ca fa ya ma ea ga) (hb : Rw w xb nb cb fb yb mb eb gb) (hna : na ≤ 1000) (hma : ma ≤ 1000) (hnb : nb ≤ 1000) (hmb : mb ≤ 1000) (hpa : rfB sa fa na ga ma = true) (hpb : rfB sb fb nb gb mb = true) (hn0 : nb = 0) :
    Calls Tryz.prog 45 #[.agg #[.bool sa, .slice xa na ca, .slice ya ma ea], .agg #[.bool sb, .slice xb nb cb, .slice yb mb eb]] w fun en w' => en = .returned (.tuple #[.agg #[.bool false, .slice none 0 0, .slice none 0 0], .int .i64 4]) ∧ Below w.heap.size w w' := by
  have hnd : ((nb : Int) == 0) = true := by simp; omega
  clear hn0
  obtain ⟨h1, h2, h3, h4⟩ := qbox2 (w := w) (.bool sa) (.slice xa na ca) (.slice ya ma ea) (.bool sb) (.slice xb nb cb) (.slice yb mb eb) 24
  have h5 := ha.below h4
  have h6 := hb.below h4
  clear ha hb
  go_enter Tryz.func45, Tryz.ntmps45
  go_wp2_with fail
  generalize ((w.alloc (.cells #[.bool sa, .slice xa na ca, .slice ya ma ea] 24)).alloc (.cells #[.bool sb, .slice xb nb cb, .slice yb mb eb] 24)).alloc (.cells #[.bool false, .slice none 0 0, .slice none 0 0] 24) = w1 at *
  have HRA := hid h5; have HRB := hid h6; have HW := hid h4; have BA := hid h1; have BB := hid h2; have OB := hid h3
  clear h1 h2 h3 h4 h5 h6
  have c1 := rForm_c (s := sa) HRA.out (by omega) (by omega)
  rw [hpa] at c1
  refine c1.mono ?_
  rintro en w2 ⟨rfl, hb⟩
  have HB2 := hid hb
  clear c1 hb
  obtain ⟨zb, b0, b1, b2⟩ := BB.out.below HB2.out
  have c2 := rForm_c (s := sb) (HRB.out.below HB2.out) (by omega) (by omega)
  rw [hpb] at c2
  go_wp2_with fail
  refine c2.mono ?_
  rintro en w3 ⟨rfl, hb⟩
  have HB3 := hid (HB2.out.trans (hb.mono HB2.out.size))
  have HB := hid (HW.out.trans (HB3.out.mono HW.out.size))
  clear c2 hb zb b0 b1 b2
  obtain ⟨zb, b0, b1, b2⟩ := BB.out.below HB3.out
  obtain ⟨hz, z0, z1, z2, zf⟩ := OB.out.below HB3.out
  go_wp2
  exact bodyPost_ret (v := .tuple #[.agg #[.bool false, .slice none 0 0, .slice none 0 0], .int .i64 4]) (by simp [results, Tryz.results45, go_sem, z0, z1, z2]) rfl ⟨rfl, below_st HB.out (by omega)⟩
theorem rAdd_g {w : World} {sa : Bool} {xa : Option Addr} {na ca : Nat} {fa : Nat → Int} {ya : Option Addr} {ma ea : Nat} {ga : Nat → Int} {sb : Bool} {xb : Option Addr} {nb cb : Nat} {fb : Nat → Int} {yb : Option Addr} {mb eb : Nat} {gb : Nat → Int} (ha : Rw w xa na ca fa ya ma ea ga) (hb : Rw w xb nb cb fb yb mb eb gb) (hna : na ≤ 1000) (hma : ma ≤ 1000) (hnb : nb ≤ 1000) (hmb : mb ≤ 1000) {qa qb : Rat} {pa pb : Bool} (hpa : rfB sa fa na ga ma = pa) (hpb : rfB sb fb nb gb mb = pb) (hqa : pa = true → Rn 100 w sa xa na ca fa ya ma ea ga qa) (hqb : pb = true → Rn 100 w sb xb nb cb fb yb mb eb gb qb) :
    Calls Tryz.prog 35 #[.agg #[.bool sa, .slice xa na ca, .slice ya ma ea], .agg #[.bool sb, .slice xb nb cb, .slice yb mb eb]] w fun en w' => ∃ s x n c f y m d g er, en = .returned (.tuple #[.agg #[.bool s, .slice x n c, .slice y m d], .int .i64 er]) ∧ Below w.heap.size w w' ∧ OQ (pa && pb) 0 qa qb w' s x n c f y m d g er := by
  cases hp : (pa && pb)
  · exact (rAddErr_c ha hb hna hma hnb hmb (by rw [hpa, hpb]; exact hp)).mono (fun _ _ ⟨k1, k2⟩ => ⟨false, none, 0, 0, fun _ => 0, none, 0, 0, fun _ => 0, 3, k1, k2, .inl ⟨rfl, rfl, rfl, rfl, rfl⟩⟩)
  · have hpp : pa = true ∧ pb = true := by simpa using hp
    exact (rAdd_n (hqa hpp.1) (hqb hpp.2) (by omega)).mono (fun _ _ ⟨s, x, n, c, f, y, m, d, g, k1, k2, k3⟩ => ⟨s, x, n, c, f, y, m, d, g, 0, k1, k2, .inr (.inr ⟨rfl, fun h => by omega, rfl, k3.mono (by omega)⟩)⟩)
theorem rSub_g {w : World} {sa : Bool} {xa : Option Addr} {na ca : Nat} {fa : Nat → Int} {ya : Option Addr} {ma ea : Nat} {ga : Nat → Int} {sb : Bool} {xb : Option Addr} {nb cb : Nat} {fb : Nat → Int} {yb : Option Addr} {mb eb : Nat} {gb : Nat → Int} (ha : Rw w xa na ca fa ya ma ea ga) (hb : Rw w xb nb cb fb yb mb eb gb) (hna : na ≤ 1000) (hma : ma ≤ 1000) (hnb : nb ≤ 1000) (hmb : mb ≤ 1000) {qa qb : Rat} {pa pb : Bool} (hpa : rfB sa fa na ga ma = pa) (hpb : rfB sb fb nb gb mb = pb) (hqa : pa = true → Rn 100 w sa xa na ca fa ya ma ea ga qa) (hqb : pb = true → Rn 100 w sb xb nb cb fb yb mb eb gb qb) :
    Calls Tryz.prog 43 #[.agg #[.bool sa, .slice xa na ca, .slice ya ma ea], .agg #[.bool sb, .slice xb nb cb, .slice yb mb eb]] w fun en w' => ∃ s x n c f y m d g er, en = .returned (.tuple #[.agg #[.bool s, .slice x n c, .slice y m d], .int .i64 er]) ∧ Below w.heap.size w w' ∧ OQ (pa && pb) 1 qa qb w' s x n c f y m d g er := by
  cases hp : (pa && pb)
  · exact (rSubErr_c ha hb hna hma hnb hmb (by rw [hpa, hpb]; exact hp)).mono (fun _ _ ⟨k1, k2⟩ => ⟨false, none, 0, 0, fun _ => 0, none, 0, 0, fun _ => 0, 3, k1, k2, .inl ⟨rfl, rfl, rfl, rfl, rfl⟩⟩)
  · have hpp : pa = true ∧ pb = true := by simpa using hp
    exact (rSub_n (hqa hpp.1) (hqb hpp.2) (by omega)).mono (fun _ _ ⟨s, x, n, c, f, y, m, d, g, k1, k2, k3⟩ => ⟨s, x, n, c, f, y, m, d, g, 0, k1, k2, .inr (.inr ⟨rfl, fun h => by omega, rfl, k3.mono (by omega)⟩)⟩)
theorem rMul_g {w : World} {sa : Bool} {xa : Option Addr} {na ca : Nat} {fa : Nat → Int} {ya : Option Addr} {ma ea : Nat} {ga : Nat → Int} {sb : Bool} {xb : Option Addr} {nb cb : Nat} {fb : Nat → Int} {yb : Option Addr} {mb eb : Nat} {gb : Nat → Int} (ha : Rw w xa na ca fa ya ma ea ga) (hb : Rw w xb nb cb fb yb mb eb gb) (hna : na ≤ 1000) (hma : ma ≤ 1000) (hnb : nb ≤ 1000) (hmb : mb ≤ 1000) {qa qb : Rat} {pa pb : Bool} (hpa : rfB sa fa na ga ma = pa) (hpb : rfB sb fb nb gb mb = pb) (hqa : pa = true → Rn 100 w sa xa na ca fa ya ma ea ga qa) (hqb : pb = true → Rn 100 w sb xb nb cb fb yb mb eb gb qb) :
    Calls Tryz.prog 44 #[.agg #[.bool sa, .slice xa na ca, .slice ya ma ea], .agg #[.bool sb, .slice xb nb cb, .slice yb mb eb]] w fun en w' => ∃ s x n c f y m d g er, en = .returned (.tuple #[.agg #[.bool s, .slice x n c, .slice y m d], .int .i64 er]) ∧ Below w.heap.size w w' ∧ OQ (pa && pb) 2 qa qb w' s x n c f y m d g er := by
  cases hp : (pa && pb)
  · exact (rMulErr_c ha hb hna hma hnb hmb (by rw [hpa, hpb]; exact hp)).mono (fun _ _ ⟨k1, k2⟩ => ⟨false, none, 0, 0, fun _ => 0, none, 0, 0, fun _ => 0, 3, k1, k2, .inl ⟨rfl, rfl, rfl, rfl, rfl⟩⟩)
  · have hpp : pa = true ∧ pb = true := by simpa using hp
    exact (rMul_n (hqa hpp.1) (hqb hpp.2) (by omega)).mono (fun _ _ ⟨s, x, n, c, f, y, m, d, g, k1, k2, k3⟩ => ⟨s, x, n, c, f, y, m, d, g, 0, k1, k2, .inr (.inr ⟨rfl, fun h => by omega, rfl, k3.mono (by omega)⟩)⟩)
theorem rQuo_g {w : World} {sa : Bool} {xa : Option Addr} {na ca : Nat} {fa : Nat → Int} {ya : Option Addr} {ma ea : Nat} {ga : Nat → Int} {sb : Bool} {xb : Option Addr} {nb cb : Nat} {fb : Nat → Int} {yb : Option Addr} {mb eb : Nat} {gb : Nat → Int} (ha : Rw w xa na ca fa ya ma ea ga) (hb : Rw w xb nb cb fb yb mb eb gb) (hna : na ≤ 1000) (hma : ma ≤ 1000) (hnb : nb ≤ 1000) (hmb : mb ≤ 1000) {qa qb : Rat} {pa pb : Bool} (hpa : rfB sa fa na ga ma = pa) (hpb : rfB sb fb nb gb mb = pb) (hqa : pa = true → Rn 100 w sa xa na ca fa ya ma ea ga qa) (hqb : pb = true → Rn 100 w sb xb nb cb fb yb mb eb gb qb) :
    Calls Tryz.prog 45 #[.agg #[.bool sa, .slice xa na ca, .slice ya ma ea], .agg #[.bool sb, .slice xb nb cb, .slice yb mb eb]] w fun en w' => ∃ s x n c f y m d g er, en = .returned (.tuple #[.agg #[.bool s, .slice x n c, .slice y m d], .int .i64 er]) ∧ Below w.heap.size w w' ∧ OQ (pa && pb) 3 qa qb w' s x n c f y m d g er := by
  cases hp : (pa && pb)
  · exact (rQuoErr_c ha hb hna hma hnb hmb (by rw [hpa, hpb]; exact hp)).mono (fun _ _ ⟨k1, k2⟩ => ⟨false, none, 0, 0, fun _ => 0, none, 0, 0, fun _ => 0, 3, k1, k2, .inl ⟨rfl, rfl, rfl, rfl, rfl⟩⟩)
  · have hpp : pa = true ∧ pb = true := by simpa using hp
    by_cases hz : nb = 0
    · exact (rQuoZero_c ha hb hna hma hnb hmb (by rw [hpa]; exact hpp.1) (by rw [hpb]; exact hpp.2) hz).mono (fun _ _ ⟨k1, k2⟩ => ⟨false, none, 0, 0, fun _ => 0, none, 0, 0, fun _ => 0, 4, k1, k2, .inr (.inl ⟨rfl, ⟨rfl, (hqb hpp.2).num_zero.2 hz⟩, rfl, rfl, rfl, rfl⟩)⟩)
    · exact (rQuo_n (hqa hpp.1) (hqb hpp.2) (by omega) (by omega)).mono (fun _ _ ⟨s, x, n, c, f, y, m, d, g, k1, k2, k3⟩ => ⟨s, x, n, c, f, y, m, d, g, 0, k1, k2, .inr (.inr ⟨rfl, fun h => hz ((hqb hpp.2).num_zero.1 h.2), rfl, k3.mono (by omega)⟩)⟩)

theorem doc_q {w : World} {sa : Bool} {xa : Option Addr} {na ca : Nat} {fa : Nat → Int} {ya : Option Addr} {ma ea : Nat} {ga : Nat → Int} {sb : Bool} {xb : Option Addr} {nb cb : Nat} {fb : Nat → Int} {yb : Option Addr} {mb eb : Nat} {gb : Nat → Int} (ha : Rw w xa na ca fa ya ma ea ga) (hb : Rw w xb nb cb fb yb mb eb gb) (hna : na ≤ 1000) (hma : ma ≤ 1000) (hnb : nb ≤ 1000) (hmb : mb ≤ 1000) {qa qb : Rat} {pa pb : Bool} (hpa : rfB sa fa na ga ma = pa) (hpb : rfB sb fb nb gb mb = pb) (hqa : pa = true → Rn 100 w sa xa na ca fa ya ma ea ga qa) (hqb : pb = true → Rn 100 w sb xb nb cb fb yb mb eb gb qb) (kind : Nat) (hk : kind < 4) :
    Calls Tryz.prog 14 #[.int .i64 kind, .agg #[.bool sa, .slice xa na ca, .slice ya ma ea], .agg #[.bool sb, .slice xb nb cb, .slice yb mb eb]] w fun en w' => ∃ s x n c f y m d g er, en = .returned (.tuple #[.agg #[.bool s, .slice x n c, .slice y m d], .int .i64 er]) ∧ Below w.heap.size w w' ∧ OQ (pa && pb) kind qa qb w' s x n c f y m d g er := by
  cases hp : (pa && pb)
  · exact (docErr_c ha hb hna hma hnb hmb kind (by rw [hpa, hpb]; exact hp)).mono (fun _ _ ⟨k1, k2⟩ => ⟨false, none, 0, 0, fun _ => 0, none, 0, 0, fun _ => 0, 3, k1, k2, .inl ⟨rfl, rfl, rfl, rfl, rfl⟩⟩)
  · have hpp : pa = true ∧ pb = true := by simpa using hp
    exact (docOk_c ha hb hna hma hnb hmb kind hk (hqa hpp.1) (hqb hpp.2)).mono (fun _ _ ⟨s, x, n, c, f, y, m, d, g, er, k1, k2, k3⟩ => ⟨s, x, n, c, f, y, m, d, g, er, k1, k2, by
      rcases k3 with ⟨h1, h2, h3, h4, h5⟩ | ⟨h1, h2, h3⟩
      · exact .inr (.inl ⟨rfl, h1, h2, h3, h4, h5⟩)
      · exact .inr (.inr ⟨rfl, h1, h2, h3⟩)⟩)

set_option maxRecDepth 100000 in
set_option maxHeartbeats 8000000 in
theorem call_q {w : World} {sa : Bool} {xa : Option Addr} {na ca : Nat} {fa : Nat → Int} {ya : Option Addr} {ma ea : Nat} {ga : Nat → Int} {sb : Bool} {xb : Option Addr} {nb cb : Nat} {fb : Nat → Int} {yb : Option Addr} {mb eb : Nat} {gb : Nat → Int} (ha : Rw w xa na ca fa ya ma ea ga) (hb : Rw w xb nb cb fb yb mb eb gb) (hna : na ≤ 1000) (hma : ma ≤ 1000) (hnb : nb ≤ 1000) (hmb : mb ≤ 1000) {qa qb : Rat} {pa pb : Bool} (hpa : rfB sa fa na ga ma = pa) (hpb : rfB sb fb nb gb mb = pb) (hqa : pa = true → Rn 100 w sa xa na ca fa ya ma ea ga qa) (hqb : pb = true → Rn 100 w sb xb nb cb fb yb mb eb gb qb) (kind : Nat) (hk : kind < 4) :
    Calls Tryz.prog 12 #[.int .i64 kind, .agg #[.bool sa, .slice xa na ca, .slice ya ma ea], .agg #[.bool sb, .slice xb nb cb, .slice yb mb eb]] w fun en w' => ∃ s x n c f y m d g er, en = .returned (.tuple #[.agg #[.bool s, .slice x n c, .slice y m d], .int .i64 er]) ∧ Below w.heap.size w w' ∧ OQ (pa && pb) kind qa qb w' s x n c f y m d g er := by
  have HPA := hid hpa; have HPB := hid hpb; have HQA0 := hid hqa; have HQB0 := hid hqb
  clear hpa hpb hqa hqb
  obtain ⟨h1, h2, h3, h4⟩ := qbox2 (w := w) (.bool sa) (.slice xa na ca) (.slice ya ma ea) (.bool sb) (.slice xb nb cb) (.slice yb mb eb) 24
  have h5 := ha.below h4
  have h6 := hb.below h4
  clear ha hb
  go_enter Tryz.func12, Tryz.ntmps12
  rcases (show kind = 0 ∨ kind = 1 ∨ kind = 2 ∨ kind = 3 by omega) with rfl | rfl | rfl | rfl
  all_goals
    go_wp2_with fail
    generalize ((w.alloc (.cells #[.bool sa, .slice xa na ca, .slice ya ma ea] 24)).alloc (.cells #[.bool sb, .slice xb nb cb, .slice yb mb eb] 24)).alloc (.cells #[.bool false, .slice none 0 0, .slice none 0 0] 24) = w1 at *
    have HRA := hid h5; have HRB := hid h6; have HW := hid h4; have BA := hid h1; have BB := hid h2; have OB := hid h3
    clear h1 h2 h3 h4 h5 h6
    obtain ⟨za, a0, a1, a2⟩ := BA.out
    obtain ⟨zb, b0, b1, b2⟩ := BB.out
    have hqa1 := fun h => (HQA0.out h).below HW.out
    have hqb1 := fun h => (HQB0.out h).below HW.out
    first
      | refine (rAdd_g HRA.out HRB.out hna hma hnb hmb HPA.out HPB.out hqa1 hqb1).mono ?_
      | refine (rSub_g HRA.out HRB.out hna hma hnb hmb HPA.out HPB.out hqa1 hqb1).mono ?_
      | refine (rMul_g HRA.out HRB.out hna hma hnb hmb HPA.out HPB.out hqa1 hqb1).mono ?_
      | refine (rQuo_g HRA.out HRB.out hna hma hnb hmb HPA.out HPB.out hqa1 hqb1).mono ?_
    rintro en w2 ⟨s, x, n, c, f, y, m, d, g, er, rfl, hb, ho⟩
    have HB := hid hb; have HO := hid ho
    clear hb ho hqa1 hqb1 za a0 a1 a2 zb b0 b1 b2
    obtain ⟨hz, z0, z1, z2, zf⟩ := OB.out.below HB.out
    go_wp2
    exact bodyPost_ret (v := .tuple #[.agg #[.bool s, .slice x n c, .slice y m d], .int .i64 er]) (by simp [results, Tryz.results12, go_sem, z0, z1, z2]) rfl ⟨s, x, n, c, f, y, m, d, g, er, rfl, below_st (HW.out.trans (HB.out.mono HW.out.size)) (by omega), HO.out.st (OB.out.below HB.out)⟩
end Go.Proofs.YtndiiknbkjlbiaaGreatDoor
namespace Go.Proofs.YtndiiknbkjlbiaaGreatDoor
open Go.RowKit

set_option maxRecDepth 100000 in
set_option maxHeartbeats 4000000 in
theorem rOf_c {w : World} {z : Int} (h0 : -9223372036854775808 ≤ z) (h1 : z ≤ 9223372036854775807) :
    Calls Tryz.prog 9 #[.int .i64 z] w fun e w' => RatAns 4 w w' e (z : Rat) := by
  have h2 := ob_new w 24
  have h3 := below_alloc (Below.refl w.heap.size w) (.cells #[.bool false, .slice none 0 0, .slice none 0 0] 24)
  go_enter Tryz.func9, Tryz.ntmps9
  go_wp2_with fail
  generalize w.alloc (.cells #[.bool false, .slice none 0 0, .slice none 0 0] 24) = w1 at *
  have OB1 := hid h2; have HW1 := hid h3
  clear h2 h3
  refine (wOf_c z w1 h0 h1).mono ?_
  rintro e w2 ⟨s2, x2, n2, c2, f2, rfl, hr2, hv2⟩
  have hb := hr2.res.bel
  have hn2 := hr2.res.le
  have hw2 := (hr2.wn hv2).alloc (.cells #[.bool s2, .slice x2 n2 c2] 45)
  have hbx : Bx (w2.alloc (.cells #[.bool s2, .slice x2 n2 c2] 45)) w2.heap.size s2 x2 n2 c2 := ⟨by simp, kN0, kN1⟩
  have hob := (OB1.out.below hb).alloc (.cells #[.bool s2, .slice x2 n2 c2] 45)
  have hbw := below_alloc (HW1.out.trans (hb.mono HW1.out.size)) (.cells #[.bool s2, .slice x2 n2 c2] 45)
  have hB8 : w.heap.size < w2.heap.size := (OB1.out.below hb).z
  clear hr2 hv2 hb OB1 HW1
  go_wp2_with fail
  generalize w2.alloc (.cells #[.bool s2, .slice x2 n2 c2] 45) = w3 at *
  generalize w2.heap.size = b3 at *
  have W3 := hid hw2; have OB := hid hob; have HW := hid hbw
  obtain ⟨za, a0, a1⟩ := hbx
  obtain ⟨hz, z0, z1, z2, zf⟩ := hob
  clear hw2 hbw
  have C1 : Hid (∀ W : World, Calls Tryz.prog 40 #[] W fun e w' => ∃ x f, e = .returned (.slice x 1 1) ∧ Below W.heap.size W w' ∧ Hid (Wn w' false x 1 1 f 1)) := fun W => ratOne_c W
  have C2 : Hid (∀ (W : World) (y : Option Addr), Calls Tryz.prog 39 #[.bool s2, .slice x2 n2 c2, .slice y 1 1] W fun e w' => ∃ r, e = .returned (.agg #[.bool r, .slice x2 n2 c2, .slice y 1 1]) ∧ Below W.heap.size W w' ∧ Hid (r = (s2 && decide (0 < n2)))) := fun W y => (rsigned_c s2 x2 y n2 c2 1 1 W (by omega)).mono (fun _ _ ⟨r, k1, k2, k3⟩ => ⟨r, k1, k3, k2⟩)
  go_region_held3 (fun w' => w'.cell? ⟨b3, 0, none⟩ = some (.bool s2) ∧ w'.cell? ⟨b3, 1, none⟩ = some (.slice x2 n2 c2) ∧ (w'.cell? ⟨w.heap.size, 0, none⟩).isSome = true ∧ (w'.cell? ⟨w.heap.size, 1, none⟩).isSome = true ∧ (w'.cell? ⟨w.heap.size, 2, none⟩).isSome = true ∧ w'.frozen? ⟨w.heap.size, 0, none⟩ = false ∧ w'.frozen? ⟨w.heap.size, 1, none⟩ = false ∧ w'.frozen? ⟨w.heap.size, 2, none⟩ = false)
    (refine ⟨?_, ?_, ?_, ?_, ?_, ?_, ?_, ?_⟩ <;> repeat (with_reducible first | assumption | exact zf _ | exact tf _ | exact uf _ | exact kI0 z0 | exact kI0 z1 | exact kI0 z2 | exact kI0 t0 | exact kI0 t1 | exact kI0 t2 | exact kI0 u0 | exact kI0 u1 | exact kI0 u2 | refine kCd ?_ | refine kId ?_ | refine kFd ?_ | refine kCs (by simp only [ne_eq]; omega) ?_ | refine kIs ?_ | refine kFs ?_ | refine kCb (by assumption) ?_ | refine kIb (by assumption) ?_))
    (first
      | (go_at_call 40; with_reducible refine (C1.out _).mono ?_; rintro e v5 ⟨y5, f5, rfl, hb5, H5⟩; have Tt : Ob v5 (w.heap.size) := (by repeat (with_reducible first | exact OB.out | exact Tt | exact Tu | refine Ob.drew ?_ | refine kOb (by assumption) ?_)); obtain ⟨_, t0, t1, t2, tf⟩ := id Tt)
      | (go_at_call 39; with_reducible refine (C2.out _ y5).mono ?_; rintro e v6 ⟨r6, rfl, hb6, H6⟩; have Tu : Ob v6 (w.heap.size) := (by repeat (with_reducible first | exact OB.out | exact Tt | exact Tu | refine Ob.drew ?_ | refine kOb (by assumption) ?_)); obtain ⟨_, u0, u1, u2, uf⟩ := id Tu))
  all_goals
    have W5 : Wn v6 false y5 1 1 f5 1 := (by repeat (with_reducible first | exact H5.out | refine kWd ?_ | refine kWb (by assumption) ?_))
    have hb : Below w3.heap.size w3 v6 := (by repeat (with_reducible first | assumption | exact Below.refl _ _ | refine Below.drew ?_ | refine kBb (by assumption) ?_))
    have hr : r6 = s2 := by
      rw [H6.out]
      have := ((wfB_iff _ _ _).1 W3.out.wf).2
      cases s2
      · rfl
      · simp; exact this rfl
    subst hr
    go_wp2
    refine bodyPost_ret (v := .agg #[.bool r6, .slice x2 n2 c2, .slice y5 1 1]) (by simp [results, Tryz.results9, go_sem, u0, u1, u2]) rfl ⟨r6, x2, n2, c2, f2, y5, 1, 1, f5, rfl, below_st (HW.out.trans (hb.mono HW.out.size)) (Nat.le_refl _), Tu.rn ⟨?_, ?_, by omega, by omega⟩⟩
    · rw [Rat.num_intCast]; exact W3.out.below hb
    · rw [Rat.den_intCast]; exact W5
end Go.Proofs.YtndiiknbkjlbiaaGreatDoor
namespace Go.Proofs.YtndiiknbkjlbiaaGreatDoor
open Go.RowKit

theorem twinD_c {w : World} {x : Option Addr} {n c : Nat} {f : Nat → Int} (hr : Rd .u64 w x n f) (hn : n ≤ 100000) (hnil : x = none → n = 0 ∧ c = 0) :
    Calls Tryz.prog 46 #[.slice x n c] w fun e w' => ∃ z c', e = .returned (.slice z n c') ∧ Below w.heap.size w w' ∧ Hid (Rd .u64 w' z n f ∧ (n ≤ c' ∧ c' ≤ 9223372036854775807) ∧ (z = none → n = 0 ∧ c' = 0)) := by
  refine (twin_c x n c f w (by omega) hr hnil).mono ?_
  rintro e w' ⟨z, c', rfl, h2, h3, h4⟩
  obtain ⟨ao, cap, hv, k1, k2, k3, _, _⟩ := h4.shape
  cases hv
  exact ⟨z, c', rfl, h2, h3, ⟨k1, by unfold maxLen at k3; omega⟩, fun h => by have := k2 h; omega⟩
theorem kRdb {w w' : World} {x : Option Addr} {n : Nat} {f : Nat → Int} (hb : Below w.heap.size w w') (h : Rd .u64 w x n f) : Rd .u64 w' x n f := h.below hb (Nat.le_refl _)
theorem kRwd {w x n c f y m d g} (h : Rw w x n c f y m d g) : Rw w.drew x n c f y m d g := ⟨h.rx, h.lx, h.cx, h.nx, h.ry, h.ly, h.cy, h.ny⟩
theorem kRwb {w w' x n c f y m d g} (hb : Below w.heap.size w w') (h : Rw w x n c f y m d g) : Rw w' x n c f y m d g := h.below hb

set_option maxRecDepth 100000 in
set_option maxHeartbeats 8000000 in
theorem qTwin_c {w : World} {s : Bool} {x : Option Addr} {n c : Nat} {f : Nat → Int} {y : Option Addr} {m d : Nat} {g : Nat → Int} (h : Rw w x n c f y m d g) (hn : n ≤ 1000) (hm : m ≤ 1000) :
    Calls Tryz.prog 13 #[.agg #[.bool s, .slice x n c, .slice y m d]] w fun e w' => ∃ z c' z2 c2, e = .returned (.agg #[.bool s, .slice z n c', .slice z2 m c2]) ∧ Below w.heap.size w w' ∧ Hid (Rw w' z n c' f z2 m c2 g) := by
  obtain ⟨h1, h2, h3⟩ := qbox1 (w := w) (.bool s) (.slice x n c) (.slice y m d) 24 24
  have h4 := h.below h3
  clear h
  go_enter Tryz.func13, Tryz.ntmps13
  go_wp2_with fail
  generalize (w.alloc (.cells #[.bool s, .slice x n c, .slice y m d] 24)).alloc (.cells #[.bool false, .slice none 0 0, .slice none 0 0] 24) = w1 at *
  have HN := hid h4; have OB := hid h2; have HW := hid h3
  obtain ⟨z, x0, x1, x2⟩ := h1
  obtain ⟨hz, z0, z1, z2, zf⟩ := h2
  clear h3 h4
  have C1 : Hid (∀ W, Below w1.heap.size w1 W → Calls Tryz.prog 46 #[.slice x n c] W fun e w' => ∃ z c', e = .returned (.slice z n c') ∧ Below W.heap.size W w' ∧ Hid (Rd .u64 w' z n f ∧ (n ≤ c' ∧ c' ≤ 9223372036854775807) ∧ (z = none → n = 0 ∧ c' = 0))) := fun W hW => twinD_c (HN.out.below hW).rx (by omega) HN.out.nx
  have C2 : Hid (∀ W, Below w1.heap.size w1 W → Calls Tryz.prog 46 #[.slice y m d] W fun e w' => ∃ z c', e = .returned (.slice z m c') ∧ Below W.heap.size W w' ∧ Hid (Rd .u64 w' z m g ∧ (m ≤ c' ∧ c' ≤ 9223372036854775807) ∧ (z = none → m = 0 ∧ c' = 0))) := fun W hW => twinD_c (HN.out.below hW).ry (by omega) HN.out.ny
  go_region_held3 (fun w' => w'.cell? ⟨w.heap.size, 0, none⟩ = some (.bool s) ∧ w'.cell? ⟨w.heap.size, 1, none⟩ = some (.slice x n c) ∧ w'.cell? ⟨w.heap.size, 2, none⟩ = some (.slice y m d) ∧ (w'.cell? ⟨w.heap.size + 1, 0, none⟩).isSome = true ∧ (w'.cell? ⟨w.heap.size + 1, 1, none⟩).isSome = true ∧ (w'.cell? ⟨w.heap.size + 1, 2, none⟩).isSome = true ∧ w'.frozen? ⟨w.heap.size + 1, 0, none⟩ = false ∧ w'.frozen? ⟨w.heap.size + 1, 1, none⟩ = false ∧ w'.frozen? ⟨w.heap.size + 1, 2, none⟩ = false)
    (refine ⟨?_, ?_, ?_, ?_, ?_, ?_, ?_, ?_, ?_⟩ <;> repeat (with_reducible first | assumption | exact zf _ | exact tf _ | exact uf _ | exact kI0 z0 | exact kI0 z1 | exact kI0 z2 | exact kI0 t0 | exact kI0 t1 | exact kI0 t2 | exact kI0 u0 | exact kI0 u1 | exact kI0 u2 | refine kCd ?_ | refine kId ?_ | refine kFd ?_ | refine kCs (by simp only [ne_eq]; omega) ?_ | refine kIs ?_ | refine kFs ?_ | refine kCb (by assumption) ?_ | refine kIb (by assumption) ?_))
    (first
      | (go_at_call 46; with_reducible refine (C1.out _ (by repeat (with_reducible first | assumption | exact Below.refl _ _ | refine Below.drew ?_ | refine kBb (by assumption) ?_))).mono ?_; rintro e v5 ⟨z5, c5, rfl, hb5, H5⟩; have Tt : Ob v5 (w.heap.size + 1) := (by repeat (with_reducible first | exact OB.out | exact Tt | exact Tu | refine Ob.drew ?_ | refine kOb (by assumption) ?_)); obtain ⟨_, t0, t1, t2, tf⟩ := id Tt)
      | (go_at_call 46; with_reducible refine (C2.out _ (by repeat (with_reducible first | assumption | exact Below.refl _ _ | refine Below.drew ?_ | refine kBb (by assumption) ?_))).mono ?_; rintro e v6 ⟨z6, c6, rfl, hb6, H6⟩; have Tu : Ob v6 (w.heap.size + 1) := (by repeat (with_reducible first | exact OB.out | exact Tt | exact Tu | refine Ob.drew ?_ | refine kOb (by assumption) ?_)); obtain ⟨_, u0, u1, u2, uf⟩ := id Tu))
  all_goals
    have D5 : Rd .u64 v6 z5 n f := (by repeat (with_reducible first | exact H5.out.1 | refine Rd.drew ?_ | refine kRdb (by assumption) ?_))
    have hb : Below w1.heap.size w1 v6 := (by repeat (with_reducible first | assumption | exact Below.refl _ _ | refine Below.drew ?_ | refine kBb (by assumption) ?_))
    go_wp2
    exact bodyPost_ret (v := .agg #[.bool s, .slice z5 n c5, .slice z6 m c6]) (by simp [results, Tryz.results13, go_sem, u0, u1, u2]) rfl ⟨z5, c5, z6, c6, rfl, below_st (HW.out.trans (hb.mono HW.out.size)) (by omega), Tu.rd D5, HN.out.lx, H5.out.2.1, H5.out.2.2, Tu.rd H6.out.1, HN.out.ly, H6.out.2.1, H6.out.2.2⟩

/-- The same digits elsewhere. -/
theorem Rn.moved {L w s x n c f y m d g q w' z c' z2 c2} (h : Rn L w s x n c f y m d g q) (k : Rw w' z n c' f z2 m c2 g) : Rn L w' s z n c' f z2 m c2 g q :=
  ⟨⟨k.rx, k.lx, h.num.wf, k.cx, k.nx, h.num.val⟩, ⟨k.ry, k.ly, h.den.wf, k.cy, k.ny, h.den.val⟩, h.ln, h.ld⟩

end Go.Proofs.YtndiiknbkjlbiaaGreatDoor
namespace Go.Proofs.YtndiiknbkjlbiaaGreatDoor
open Go.RowKit

theorem cut42_c (w : World) : Calls Tryz.prog 77 #[.string ⟨#[52, 47, 50]⟩, .string ⟨#[47]⟩] w fun e w' => e = .returned (.tuple #[.string ⟨#[52]⟩, .string ⟨#[50]⟩, .bool true]) ∧ Below w.heap.size w w' := by
  have C1 : Hid (∀ W, Calls Tryz.prog 135 #[.string ⟨#[52, 47, 50]⟩, .string ⟨#[47]⟩] W fun e w' => e = .returned (.int .i64 1) ∧ w' = W) := fun W => Tryz.stringslite_Index_one ⟨#[52, 47, 50]⟩ 47 W
  have c2 : ∀ W, Calls Tryz.prog 110 #[.string ⟨#[52, 47, 50]⟩, .string ⟨#[47]⟩] W fun e w' => e = .returned (.tuple #[.string ⟨#[52]⟩, .string ⟨#[50]⟩, .bool true]) ∧ Below W.heap.size W w' := fun W => by
    go_enter Tryz.func110, Tryz.ntmps110
    go_wp2_with fail
    refine (C1.out _).mono ?_
    rintro e w1 ⟨rfl, rfl⟩
    go_wp2
    go_quiet (fail)
    go_wp2
    have e1 : (ByteArray.mk #[52, 47, 50]).extract 0 1 = ⟨#[52]⟩ := by decide +kernel
    have e2 : (ByteArray.mk #[52, 47, 50]).extract 2 3 = ⟨#[50]⟩ := by decide +kernel
    exact bodyPost_ret (v := .tuple #[.string ⟨#[52]⟩, .string ⟨#[50]⟩, .bool true]) (by simp [results, Tryz.results110, go_sem, e1, e2]) rfl ⟨rfl, below_drewN (Below.refl _ _) _⟩
  have C2 := hid c2
  clear c2 C1
  go_enter Tryz.func77, Tryz.ntmps77
  go_wp2_with fail
  refine (C2.out _).mono ?_
  rintro e w1 ⟨rfl, hb⟩
  go_wp2
  exact bodyPost_ret (v := .tuple #[.string ⟨#[52]⟩, .string ⟨#[50]⟩, .bool true]) (by simp [results, Tryz.results77, go_sem]) rfl ⟨rfl, hb⟩
theorem sb_4 : Sb ⟨#[52]⟩ 1 (fun _ => 52) := ⟨rfl, fun k h => by
  have hk : k < 1 := h
  obtain rfl : k = 0 := by omega
  rfl⟩
theorem sb_2 : Sb ⟨#[50]⟩ 1 (fun _ => 50) := ⟨rfl, fun k h => by
  have hk : k < 1 := h
  obtain rfl : k = 0 := by omega
  rfl⟩
theorem read_4 {r : Bool} {k : Nat} {f : Nat → Int} {er : Int} (h : WRead 1 (fun _ => 52) r k f er) : er = 0 ∧ wv r f k = 4 := by
  have hn : IsNum (fun _ => 52) 1 := ⟨(digB_iff _ _).1 (by decide), by decide, .inl rfl⟩
  have hd : dn (fun _ => 52) 1 = 4 := by decide
  rcases h with ⟨h1, _⟩ | ⟨_, _, h1, _⟩ | ⟨_, _, _, h1, h2⟩ | ⟨_, _, h1, _⟩
  · omega
  · exact absurd h1 (by decide)
  · rw [hd] at h2; exact ⟨h1, h2⟩
  · exact absurd ⟨fun h => absurd h.2 (by decide), hn⟩ h1
theorem read_2 {k : Nat} {f : Nat → Int} {er : Int} (h : ReadAns 1 (fun _ => 50) k f er) : er = 0 ∧ vf f k = 2 := by
  have hn : IsNum (fun _ => 50) 1 := ⟨(digB_iff _ _).1 (by decide), by decide, .inl rfl⟩
  have hd : dn (fun _ => 50) 1 = 2 := by decide
  rcases h with ⟨h1, _⟩ | ⟨_, h1, _⟩ | ⟨_, _, h1, h2⟩
  · omega
  · exact absurd hn h1
  · rw [hd] at h2; exact ⟨h1, h2⟩
theorem readDen2_c (w : World) : Calls Tryz.prog 79 #[.string ⟨#[50]⟩] w fun e w' => ∃ x k c f, e = .returned (.tuple #[.slice x k c, .int .i64 0]) ∧ Below w.heap.size w w' ∧ Wn w' false x k c f 2 := by
  go_enter Tryz.func79, Tryz.ntmps79
  go_wp2_with fail
  refine (Read_c ⟨#[50]⟩ 1 _ _ sb_2).mono ?_
  rintro e w1 ⟨x, k, c, f, er, rfl, hres, hans⟩
  have hr := hres.ans (by omega)
  obtain ⟨rfl, hv⟩ := read_2 hans
  have hb := hr.bel
  have hw : Wn w1 false x k c f 2 := ⟨hr.rd, hr.lm, (wfB_iff _ _ _).2 ⟨hr.fm, fun h => by cases h⟩, hr.ncap, hr.nil', hv⟩
  have C2 := hid (isOne_c hw); have HB := hid hb; have HW := hid hw
  clear hres hans hr hv hb hw
  go_wp2_with fail
  refine C2.out.mono ?_
  rintro e w2 ⟨rfl, rfl⟩
  have hd : decide ((2 : Int) = 1) = false := by decide
  rw [hd]
  go_wp2
  go_ret2
  exact ⟨x, k, c, f, rfl, HB.out, HW.out⟩
theorem rf_42 {s f n g m} (h1 : vf f n = 4) (h2 : vf g m = 2) : rfB s f n g m = false := by
  simp only [rfB, h1, h2]
  have : decide ((4 : Int).toNat.gcd (2 : Int).toNat = 1) = false := by decide
  rw [this]; simp
set_option maxRecDepth 100000 in
set_option maxHeartbeats 4000000 in
theorem read42_c (w : World) : Calls Tryz.prog 32 #[.string ⟨#[52, 47, 50]⟩] w fun e w' => ∃ s x n c y m d, e = .returned (.tuple #[.agg #[.bool s, .slice x n c, .slice y m d], .int .i64 11]) ∧ Below w.heap.size w w' := by
  have h3 := ob_new w 24
  have h4 := below_alloc (Below.refl w.heap.size w) (.cells #[.bool false, .slice none 0 0, .slice none 0 0] 24)
  have hsz : ((ByteArray.mk #[52, 47, 50]).size : Int) = 3 := by decide
  go_enter Tryz.func32, Tryz.ntmps32
  go_wp2_with fail
  generalize w.alloc (.cells #[.bool false, .slice none 0 0, .slice none 0 0] 24) = w1 at *
  have OB1 := hid h3; have HW1 := hid h4
  clear h3 h4
  refine (cut42_c _).mono ?_
  rintro e w2 ⟨rfl, hb⟩
  have OB2 := hid (OB1.out.below hb); have HW2 := hid (HW1.out.trans (hb.mono HW1.out.size))
  clear hb OB1 HW1
  go_wp2_with fail
  refine (wRead_c ⟨#[52]⟩ 1 _ _ sb_4 (by omega)).mono ?_
  rintro e w3 ⟨s3, x3, k3, c3, f3, er, rfl, hr, hans⟩
  obtain ⟨rfl, hv⟩ := read_4 hans
  have hb := hr.res.bel
  have WA3 := hid (hr.wn hv); have OB3 := hid (OB2.out.below hb); have HW3 := hid (HW2.out.trans (hb.mono HW2.out.size))
  clear hb hr hans hv OB2 HW2
  go_wp2_with fail
  refine (ratOne_c _).mono ?_
  rintro e w4 ⟨x4, f4, rfl, hb, _⟩
  have BA4 := hid (bx_new hb); have WA4 := hid (WA3.out.next hb); have OB4 := hid (OB3.out.next hb); have HW4 := hid ((below_alloc HW3.out _).trans (hb.mono (below_alloc HW3.out _).size))
  clear hb OB3 HW3 WA3
  go_wp2_with fail
  refine (readDen2_c _).mono ?_
  rintro e w5 ⟨x5, k5, c5, f5, rfl, hb, hd⟩
  have WD5 := hid hd; have BA5 := hid (BA4.out.below hb); have WA5 := hid (WA4.out.below hb); have OB5 := hid (OB4.out.below hb); have HW5 := hid (HW4.out.trans (hb.mono HW4.out.size))
  clear hb hd BA4 WA4 OB4 HW4
  obtain ⟨za, a0, a1⟩ := BA5.out
  go_wp2_with fail
  refine (rsigned_c s3 x3 x5 k3 c3 k5 c5 _ (by have := WA5.out.cap; omega)).mono ?_
  rintro e w6 ⟨r6, rfl, _, hb⟩
  have WD6 := hid (WD5.out.below hb); have WA6 := hid (WA5.out.below hb); have OB6 := hid (OB5.out.below hb); have HW6 := hid (HW5.out.trans (hb.mono HW5.out.size))
  clear hb za a0 a1 BA5 WA5 WD5 OB5 HW5
  have k3le := WA6.out.len1 (by decide)
  have k5le := WD6.out.len1 (by decide)
  have hrf : rfB r6 f3 k3 f5 k5 = false := by
    refine rf_42 ?_ WD6.out.nv
    have := WA6.out.mag.nv; exact this
  have HRF := hid hrf
  clear hrf
  go_wp2_with fail
  refine (rForm_c (s := r6) (⟨(WA6.out.alloc _).rd, WA6.out.lm, WA6.out.cap, WA6.out.nil, (WD6.out.alloc _).rd, WD6.out.lm, WD6.out.cap, WD6.out.nil⟩ : Rw _ x3 k3 c3 f3 x5 k5 c5 f5) (by omega) (by omega)).mono ?_
  rintro e w7 ⟨rfl, hb⟩
  rw [HRF.out]
  have OB7 := hid (OB6.out.next hb); have HW7 := hid ((below_alloc HW6.out _).trans (hb.mono (below_alloc HW6.out _).size))
  clear hb OB6 HW6 WA6 WD6
  obtain ⟨hz, z0, z1, z2, zf⟩ := OB7.out
  go_wp2
  exact bodyPost_ret (v := .tuple #[.agg #[.bool false, .slice none 0 0, .slice none 0 0], .int .i64 11]) (by simp [results, Tryz.results32, go_sem, z0, z1, z2]) rfl ⟨false, none, 0, 0, none, 0, 0, rfl, below_st HW7.out (Nat.le_refl _)⟩
end Go.Proofs.YtndiiknbkjlbiaaGreatDoor
namespace Go.Proofs.YtndiiknbkjlbiaaGreatDoor
open Go.RowKit

theorem dec_3 : Lib.decDigits 3 = [51] := by decide +kernel
theorem dec_2 : Lib.decDigits 2 = [50] := by decide +kernel
theorem wtxt_m3 {s : Bool} {f : Nat → Int} {n : Nat} (hf : Lm f n) (hw : wfB s f n = true) (hv : wv s f n = -3) : wtxt s f n = ⟨#[45, 51]⟩ ∧ wter s f n = 0 := by
  have h0 := vf_nonneg hf
  have hfm : fmB f n = true := (fmB_iff f n).2 (fm_of_wfB hw)
  cases s
  · rw [wv_false] at hv; omega
  · rw [wv_true] at hv
    have e : (vf f n).toNat = 3 := by omega
    refine ⟨?_, by simp [wter, hw]⟩
    unfold wtxt txt
    rw [if_pos hw, if_pos rfl, if_pos hfm, e, dec_3]
    rfl
theorem txt_2 {f : Nat → Int} {n : Nat} (hf : Fm f n) (hv : vf f n = 2) : txt f n = ⟨#[50]⟩ ∧ ter f n = 0 := by
  have hfm : fmB f n = true := (fmB_iff f n).2 hf
  have e : (vf f n).toNat = 2 := by omega
  refine ⟨?_, by simp [ter, hfm]⟩
  unfold txt
  rw [if_pos hfm, e, dec_2]
set_option maxRecDepth 100000 in
set_option maxHeartbeats 4000000 in
theorem text32_c {L w s x n c f y m d g q} (h : Rn L w s x n c f y m d g q) (hL : L ≤ 1000) (t1 : Tg w x) (t2 : Tg w y) (htab : Tab w) (h1 : q.num = -3) (h2 : q.den = 2) :
    Calls Tryz.prog 30 #[.agg #[.bool s, .slice x n c, .slice y m d]] w fun e w' => e = .returned (.tuple #[.string ⟨#[45, 51, 47, 50]⟩, .int .i64 0]) ∧ Below w.heap.size w w' := by
  have HR := hid h; have T1 := hid t1; have T2 := hid t2; have HTab := hid htab
  have b1 := h.ln; have b2 := h.ld
  have e1 := wtxt_m3 h.num.lm h.num.wf (h.num.val.trans h1)
  have e2 := txt_2 h.den.fm (h.den.nv.trans (by rw [h2]; rfl))
  have E1 := hid e1; have E2 := hid e2; have H2 := hid h2
  clear h t1 t2 htab e1 e2 h1 h2
  go_enter Tryz.func30, Tryz.ntmps30
  go_wp2_with fail
  refine (rForm_n (HR.out.alloc _) (by omega)).mono ?_
  rintro e w1 ⟨rfl, hb⟩
  have B1 := hid (bx3_new hb); have HW1 : Hid (Below w.heap.size w w1) := (below_alloc (Below.refl w.heap.size w) _).trans (hb.mono (by simp))
  clear hb
  obtain ⟨z, x0, x1, x2⟩ := B1.out
  go_wp2_with fail
  refine (numer_c s x y n c m d _).mono ?_
  rintro e w2 ⟨rfl, hb⟩
  have B2 := hid (B1.out.below hb); have HW2 := hid (HW1.out.trans (hb.mono HW1.out.size))
  clear hb B1 HW1 z x0 x1 x2
  obtain ⟨z, x0, x1, x2⟩ := B2.out
  have R2 := hid (HR.out.below HW2.out)
  have ct := wText_c s x n c f w2 (by omega) R2.out.num.rd (T1.out.kept HW2.out) R2.out.num.lm (HTab.out.below HW2.out HTab.out.lt) R2.out.num.cap.1 R2.out.num.cap.2
  rw [E1.out.1, E1.out.2] at ct
  have CT := hid ct
  clear ct
  go_wp2_with fail
  refine CT.out.mono ?_
  rintro e w3 ⟨rfl, hb⟩
  have B3 := hid (B2.out.below hb); have HW3 := hid (HW2.out.trans (hb.mono HW2.out.size)); have R3 := hid (R2.out.below hb)
  clear hb B2 HW2 R2 CT z x0 x1 x2
  obtain ⟨z, x0, x1, x2⟩ := B3.out
  have c4 := isOne_c R3.out.den
  rw [show decide ((q.den : Int) = 1) = false by rw [H2.out]; decide] at c4
  have C4 := hid c4
  clear c4
  have cd := TextAll_c y m d g w3 (by omega) R3.out.den.rd (T2.out.kept HW3.out) R3.out.den.lm (HTab.out.below HW3.out HTab.out.lt) R3.out.den.cap.1 R3.out.den.cap.2
  rw [E2.out.1, E2.out.2] at cd
  have CD := hid cd
  clear cd
  go_wp2_with fail
  refine C4.out.mono ?_
  rintro e w4 ⟨rfl, rfl⟩
  go_wp2_with fail
  refine CD.out.mono ?_
  rintro e w5 ⟨rfl, hb⟩
  have HW5 := hid (HW3.out.trans (hb.mono HW3.out.size))
  clear hb
  go_wp2
  go_ret2
  exact ⟨by first | rfl | decide +kernel, HW5.out⟩
end Go.Proofs.YtndiiknbkjlbiaaGreatDoor
namespace Go.Proofs.YtndiiknbkjlbiaaGreatDoor
open Go.RowKit

theorem q_a : ((6 : Int) : Rat) / ((-4 : Int) : Rat) = ((-3 : Int) : Rat) / ((2 : Int) : Rat) := by decide +kernel
theorem q_b : ((1 : Int) : Rat) / ((6 : Int) : Rat) + ((1 : Int) : Rat) / ((3 : Int) : Rat) = ((1 : Int) : Rat) / ((2 : Int) : Rat) := by decide +kernel
theorem q_c : (((-1 : Int) : Rat) / ((2 : Int) : Rat)).floor = -1 := by decide +kernel
theorem q_n : (((-3 : Int) : Rat) / ((2 : Int) : Rat)).num = -3 := by decide +kernel
theorem q_d : (((-3 : Int) : Rat) / ((2 : Int) : Rat)).den = 2 := by decide +kernel
theorem rf_none : rfB false (fun _ => 0) 0 (fun _ => 0) 0 = false := by decide
set_option maxRecDepth 100000 in
set_option maxHeartbeats 8000000 in
theorem rAwake_c (w : World) (htab : Tab w) : Calls Tryz.prog 7 #[] w fun e w' => e = .returned (.bool true) ∧ Below w.heap.size w w' := by
  have HTab := hid htab
  clear htab
  go_enter Tryz.func7, Tryz.ntmps7
  go_wp2_with fail
  refine (docOf_c 6 _ (by decide) (by decide)).mono ?_
  rintro e w1 ⟨s1, x1, k1, c1, f1, rfl, hr, hv⟩
  have HW1 := hid hr.res.bel; have WA1 := hid (hr.wn hv)
  have hk1 := (hr.wn hv).len1 (by decide)
  clear hr hv
  go_wp2_with fail
  refine (docOf_c (-4) _ (by decide) (by decide)).mono ?_
  rintro e w2 ⟨s2, x2, k2, c2, f2, rfl, hr, hv⟩
  have hb := hr.res.bel; have WB2 := hid (hr.wn hv)
  have hk2 := (hr.wn hv).len1 (by decide)
  clear hr hv
  have WA2 := hid (WA1.out.below hb); have HW2 := hid (HW1.out.trans (hb.mono HW1.out.size))
  clear WA1 HW1 hb
  go_wp2_with fail
  refine (rMake_n (L := 1) WA2.out WB2.out (by decide) hk1 hk2 (by decide)).mono ?_
  rintro e w3 ⟨sA, xA, nA, cA, fA, yA, mA, dA, gA, rfl, hb, hr⟩
  rw [q_a] at hr
  have RA3 := hid hr
  clear hr WA2 WB2
  have HW3 := hid (HW2.out.trans (hb.mono HW2.out.size))
  clear HW2 hb
  go_wp2_with fail
  refine (num_c _ (1) 6 (by decide) (by decide) (by decide) (by decide)).mono ?_
  rintro e w4 ⟨sp, xp, np, cp, fp, yp, mp, dp, gp, rfl, hb, hr, ht1, ht2⟩
  have Rp4 := hid hr
  have BA4 := hid (bx3_new hb)
  clear hr ht1 ht2
  have RA4 := hid (RA3.out.next hb); have HW4 := hid ((below_alloc HW3.out _).trans (hb.mono (below_alloc HW3.out _).size))
  clear RA3 HW3 hb
  go_wp2_with fail
  refine (num_c _ (1) 3 (by decide) (by decide) (by decide) (by decide)).mono ?_
  rintro e w5 ⟨sq, xq, nq, cq, fq, yq, mq, dq, gq, rfl, hb, hr, ht1, ht2⟩
  have Rq5 := hid hr
  clear hr ht1 ht2
  have RA5 := hid (RA4.out.below hb); have BA5 := hid (BA4.out.below hb); have Rp5 := hid (Rp4.out.below hb); have HW5 := hid (HW4.out.trans (hb.mono HW4.out.size))
  clear RA4 BA4 Rp4 HW4 hb
  go_wp2_with fail
  refine (rAdd_n Rp5.out Rq5.out (by decide)).mono ?_
  rintro e w6 ⟨sB, xB, nB, cB, fB, yB, mB, dB, gB, rfl, hb, hr⟩
  rw [q_b] at hr
  have RB6 := hid hr
  clear hr Rp5 Rq5
  have RA6 := hid (RA5.out.below hb); have BA6 := hid (BA5.out.below hb); have HW6 := hid (HW5.out.trans (hb.mono HW5.out.size))
  clear RA5 BA5 HW5 hb
  go_wp2_with fail
  refine (num_c _ (-1) 2 (by decide) (by decide) (by decide) (by decide)).mono ?_
  rintro e w7 ⟨sr, xr, nr, cr, fr, yr, mr, dr, gr, rfl, hb, hr, ht1, ht2⟩
  have Rr7 := hid hr
  have BB7 := hid (bx3_new hb)
  clear hr ht1 ht2
  have RA7 := hid (RA6.out.next hb); have BA7 := hid (BA6.out.next hb); have RB7 := hid (RB6.out.next hb); have HW7 := hid ((below_alloc HW6.out _).trans (hb.mono (below_alloc HW6.out _).size))
  clear RA6 BA6 RB6 HW6 hb
  go_wp2_with fail
  refine (rFloor_n Rr7.out (by decide)).mono ?_
  rintro e w8 ⟨sC, xC, nC, cC, fC, rfl, hb, hkC, hr⟩
  rw [q_c] at hr
  have WC8 := hid hr
  clear hr Rr7
  have RA8 := hid (RA7.out.below hb); have BA8 := hid (BA7.out.below hb); have RB8 := hid (RB7.out.below hb); have BB8 := hid (BB7.out.below hb); have HW8 := hid (HW7.out.trans (hb.mono HW7.out.size))
  clear RA7 BA7 RB7 BB7 HW7 hb
  go_wp2_with fail
  refine (num_c _ (-3) 2 (by decide) (by decide) (by decide) (by decide)).mono ?_
  rintro e w9 ⟨st, xt, nt, ct, ft, yt, mt, dt, gt, rfl, hb, hr, ht1, ht2⟩
  have Rt9 := hid hr
  have BC9 := hid (bx_new hb); have G1 := hid ht1; have G2 := hid ht2
  clear hr ht1 ht2
  have RA9 := hid (RA8.out.next hb); have BA9 := hid (BA8.out.next hb); have RB9 := hid (RB8.out.next hb); have BB9 := hid (BB8.out.next hb); have WC9 := hid (WC8.out.next hb); have HW9 := hid ((below_alloc HW8.out _).trans (hb.mono (below_alloc HW8.out _).size))
  clear RA8 BA8 RB8 BB8 WC8 HW8 hb
  go_wp2_with fail
  refine (text32_c Rt9.out (by decide) G1.out G2.out (HTab.out.below HW9.out HTab.out.lt) q_n q_d).mono ?_
  rintro e w10 ⟨rfl, hb⟩
  clear Rt9 G1 G2
  have RA10 := hid (RA9.out.below hb); have BA10 := hid (BA9.out.below hb); have RB10 := hid (RB9.out.below hb); have BB10 := hid (BB9.out.below hb); have WC10 := hid (WC9.out.below hb); have BC10 := hid (BC9.out.below hb); have HW10 := hid (HW9.out.trans (hb.mono HW9.out.size))
  clear RA9 BA9 RB9 BB9 WC9 BC9 HW9 hb
  go_wp2_with fail
  refine (read42_c _).mono ?_
  rintro e w11 ⟨sD, xD, nD, cD, yD, mD, dD, rfl, hb⟩
  have RA11 := hid (RA10.out.below hb); have BA11 := hid (BA10.out.below hb); have RB11 := hid (RB10.out.below hb); have BB11 := hid (BB10.out.below hb); have WC11 := hid (WC10.out.below hb); have BC11 := hid (BC10.out.below hb); have HW11 := hid (HW10.out.trans (hb.mono HW10.out.size))
  clear RA10 BA10 RB10 BB10 WC10 BC10 HW10 hb
  obtain ⟨za, a0, a1, a2⟩ := BA11.out
  obtain ⟨zb, b0, b1, b2⟩ := BB11.out
  obtain ⟨zc, c0, c1'⟩ := BC11.out
  have N1 : Hid (∀ W : World, Calls Tryz.prog 36 #[.int .i64 (-3), .int .i64 2] W fun e w' => ∃ s x n c f y m d g, e = .returned (.agg #[.bool s, .slice x n c, .slice y m d]) ∧ Below W.heap.size W w' ∧ Hid (Rn 2 w' s x n c f y m d g (((-3 : Int) : Rat) / ((2 : Int) : Rat)))) := fun W => (num_c W (-3) 2 (by decide) (by decide) (by decide) (by decide)).mono (fun e w' ⟨s, x, n, c, f, y, m, d, g, h1, h2, h3, _, _⟩ => ⟨s, x, n, c, f, y, m, d, g, h1, h2, h3⟩)
  have N2 : Hid (∀ W : World, Calls Tryz.prog 36 #[.int .i64 1, .int .i64 2] W fun e w' => ∃ s x n c f y m d g, e = .returned (.agg #[.bool s, .slice x n c, .slice y m d]) ∧ Below W.heap.size W w' ∧ Hid (Rn 2 w' s x n c f y m d g (((1 : Int) : Rat) / ((2 : Int) : Rat)))) := fun W => (num_c W 1 2 (by decide) (by decide) (by decide) (by decide)).mono (fun e w' ⟨s, x, n, c, f, y, m, d, g, h1, h2, h3, _, _⟩ => ⟨s, x, n, c, f, y, m, d, g, h1, h2, h3⟩)
  have S1 : Hid (∀ (W : World) (s : Bool) (x : Option Addr) (n c : Nat) (f : Nat → Int) (y : Option Addr) (m d : Nat) (g : Nat → Int), Below w11.heap.size w11 W → Rn 2 W s x n c f y m d g (((-3 : Int) : Rat) / ((2 : Int) : Rat)) → Calls Tryz.prog 8 #[.agg #[.bool sA, .slice xA nA cA, .slice yA mA dA], .agg #[.bool s, .slice x n c, .slice y m d]] W fun e w' => e = .returned (.bool true) ∧ Below W.heap.size W w') := fun W s x n c f y m d g hW hr => (rSame_n (RA11.out.below hW) hr (by decide) (by decide)).mono (fun e w' ⟨h1, h2⟩ => ⟨by rw [h1]; simp, h2⟩)
  have S2 : Hid (∀ (W : World) (s : Bool) (x : Option Addr) (n c : Nat) (f : Nat → Int) (y : Option Addr) (m d : Nat) (g : Nat → Int), Below w11.heap.size w11 W → Rn 2 W s x n c f y m d g (((1 : Int) : Rat) / ((2 : Int) : Rat)) → Calls Tryz.prog 8 #[.agg #[.bool sB, .slice xB nB cB, .slice yB mB dB], .agg #[.bool s, .slice x n c, .slice y m d]] W fun e w' => e = .returned (.bool true) ∧ Below W.heap.size W w') := fun W s x n c f y m d g hW hr => (rSame_n (RB11.out.below hW) hr (by decide) (by decide)).mono (fun e w' ⟨h1, h2⟩ => ⟨by rw [h1]; simp, h2⟩)
  have D1 : Hid (∀ W : World, Calls Tryz.prog 34 #[.int .i64 (-1)] W fun e w' => ∃ s x n c f, e = .returned (.agg #[.bool s, .slice x n c]) ∧ Below W.heap.size W w' ∧ Hid (n ≤ 1 ∧ Wn w' s x n c f (-1))) := fun W => (docOf_c (-1) W (by decide) (by decide)).mono (fun e w' ⟨s, x, n, c, f, h1, h2, h3⟩ => ⟨s, x, n, c, f, h1, h2.res.bel, (h2.wn h3).len1 (by decide), h2.wn h3⟩)
  have S3 : Hid (∀ (W : World) (s : Bool) (x : Option Addr) (n c : Nat) (f : Nat → Int), Below w11.heap.size w11 W → n ≤ 1 → Wn W s x n c f (-1) → Calls Tryz.prog 25 #[.agg #[.bool sC, .slice xC nC cC], .agg #[.bool s, .slice x n c]] W fun e w' => e = .returned (.bool true) ∧ Below W.heap.size W w') := fun W s x n c f hW hn hr => same_n (WC11.out.below hW) hr (by omega) (by omega)
  have F1 : Hid (∀ W : World, Calls Tryz.prog 17 #[.agg #[.bool false, .slice none 0 0, .slice none 0 0]] W fun e w' => e = .returned (.bool false) ∧ Below W.heap.size W w') := fun W => by
    have h := rForm_c (s := false) (⟨Rd.zero, (fun j hj => by omega), by omega, (fun _ => by omega), Rd.zero, (fun j hj => by omega), by omega, (fun _ => by omega)⟩ : Rw W none 0 0 (fun _ => 0) none 0 0 (fun _ => 0)) (by omega) (by omega)
    rw [rf_none] at h
    exact h
  go_wp2
  go_region_held3 (fun w' => w'.cell? ⟨w3.heap.size, 0, none⟩ = some (.bool sA) ∧ w'.cell? ⟨w3.heap.size, 1, none⟩ = some (.slice xA nA cA) ∧ w'.cell? ⟨w3.heap.size, 2, none⟩ = some (.slice yA mA dA) ∧ w'.cell? ⟨w6.heap.size, 0, none⟩ = some (.bool sB) ∧ w'.cell? ⟨w6.heap.size, 1, none⟩ = some (.slice xB nB cB) ∧ w'.cell? ⟨w6.heap.size, 2, none⟩ = some (.slice yB mB dB) ∧ w'.cell? ⟨w8.heap.size, 0, none⟩ = some (.bool sC) ∧ w'.cell? ⟨w8.heap.size, 1, none⟩ = some (.slice xC nC cC))
    (refine ⟨?_, ?_, ?_, ?_, ?_, ?_, ?_, ?_⟩ <;> repeat (with_reducible first | assumption | refine kCd ?_ | refine kCa ?_ | refine kCb (by assumption) ?_))
    (first
      | (go_at_call 36; with_reducible refine (N1.out _).mono ?_; rintro e v1 ⟨i1, i2, i3, i4, i5, i6, i7, i8, i9, rfl, hv1, HI⟩)
      | (go_at_call 8; with_reducible refine (S1.out _ i1 i2 i3 i4 i5 i6 i7 i8 i9 (by repeat (with_reducible first | assumption | exact Below.refl _ _ | refine Below.drew ?_ | refine kBa ?_ | refine kBb (by assumption) ?_)) HI.out).mono ?_; rintro e v2 ⟨rfl, hv2⟩)
      | (go_at_call 36; with_reducible refine (N2.out _).mono ?_; rintro e v3 ⟨j1, j2, j3, j4, j5, j6, j7, j8, j9, rfl, hv3, HJ⟩)
      | (go_at_call 8; with_reducible refine (S2.out _ j1 j2 j3 j4 j5 j6 j7 j8 j9 (by repeat (with_reducible first | assumption | exact Below.refl _ _ | refine Below.drew ?_ | refine kBa ?_ | refine kBb (by assumption) ?_)) HJ.out).mono ?_; rintro e v4 ⟨rfl, hv4⟩)
      | (go_at_call 34; with_reducible refine (D1.out _).mono ?_; rintro e v5 ⟨k1', k2', k3', k4', k5', rfl, hv5, HK⟩)
      | (go_at_call 25; with_reducible refine (S3.out _ k1' k2' k3' k4' k5' (by repeat (with_reducible first | assumption | exact Below.refl _ _ | refine Below.drew ?_ | refine kBa ?_ | refine kBb (by assumption) ?_)) HK.out.1 HK.out.2).mono ?_; rintro e v6 ⟨rfl, hv6⟩)
      | (go_at_call 17; with_reducible refine (F1.out _).mono ?_; rintro e v7 ⟨rfl, hv7⟩))
  all_goals
    go_wp2
    go_ret
    exact ⟨rfl, HW11.out.trans (Below.mono (by repeat (with_reducible first | assumption | exact Below.refl _ _ | refine Below.drew ?_ | refine kBa ?_ | refine kBb (by assumption) ?_)) HW11.out.size)⟩
end Go.Proofs.YtndiiknbkjlbiaaGreatDoor

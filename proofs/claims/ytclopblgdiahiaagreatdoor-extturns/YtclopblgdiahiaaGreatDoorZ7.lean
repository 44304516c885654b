/-
  Rational numbers in form that can be read; the walks of package rat's add and mul. The walk of package rat's mul. Walks of package rat's calls Form, Add, Sub, Mul, Quo on numbers in form; the document's Same and Light. How an argument that is a rational number is opened. How an argument that is a bound is opened. The walk of the document's reference for nat: Mul. Digits to the base 2^32 that can be read, with their number; the reference's Add, Sub, Mul on them. The walk of the document's reference for nat: bit, Bits, DivMod. Walks of nat.Shl and of the document's reference: Shl, DocShl.
-/
import Derived.Test.YtclopblgdiahiaaGreatDoorZ6
import Derived.Test.YtclopblgdiahiaaGreatDoorZ2
import Derived.Test.YtclopblgdiahiaaGreatDoorZ4
import Derived.Test.YtclopblgdiahiaaGreatDoorZ5
import Derived.Test.YtclopblgdiahiaaGreatDoorZ3
namespace Go.Proofs.YtclopblgdiahiaaGreatDoor
open Go.RowKit

/-- A rational number in form that can be read, of at most L limbs above and below. -/
structure Rn (L : Nat) (w : World) (s : Bool) (x : Option Addr) (n c : Nat) (f : Nat → Int) (y : Option Addr) (m d : Nat) (g : Nat → Int) (q : Rat) : Prop where
  num : Wn w s x n c f q.num
  den : Wn w false y m d g (q.den : Int)
  ln : n ≤ L
  ld : m ≤ L
theorem Rn.below {L w w' s x n c f y m d g q} (h : Rn L w s x n c f y m d g q) (hb : Below w.heap.size w w') : Rn L w' s x n c f y m d g q := ⟨h.num.below hb, h.den.below hb, h.ln, h.ld⟩
theorem Rn.alloc {L w s x n c f y m d g q} (h : Rn L w s x n c f y m d g q) (o : Obj) : Rn L (w.alloc o) s x n c f y m d g q := ⟨h.num.alloc o, h.den.alloc o, h.ln, h.ld⟩
theorem Rn.next {L w w' s x n c f y m d g q} {o : Obj} (h : Rn L w s x n c f y m d g q) (hb : Below (w.alloc o).heap.size (w.alloc o) w') : Rn L w' s x n c f y m d g q := (h.alloc o).below hb
theorem Rn.mono {L L' w s x n c f y m d g q} (h : Rn L w s x n c f y m d g q) (hL : L ≤ L') : Rn L' w s x n c f y m d g q := ⟨h.num, h.den, Nat.le_trans h.ln hL, Nat.le_trans h.ld hL⟩
theorem Wn.mag {w s x n c f v} (h : Wn w s x n c f v) : Wn w false x n c f (v.natAbs : Nat) := by
  refine ⟨h.rd, h.lm, (wfB_iff _ _ _).2 ⟨h.fm, fun h => by cases h⟩, h.cap, h.nil, ?_⟩
  have h0 := vf_nonneg h.lm
  have hv := h.val
  show vf f n = _
  cases s
  · rw [wv_false] at hv; omega
  · rw [wv_true] at hv; omega
theorem Wn.sgn {w s x n c f v} (h : Wn w s x n c f v) : v = sg s v.natAbs := by
  have h0 := vf_nonneg h.lm
  have hv := h.val
  cases s
  · rw [wv_false] at hv; show v = (v.natAbs : Int); omega
  · rw [wv_true] at hv; show v = -(v.natAbs : Int); omega
theorem Wn.resign {w x n c f} {A : Nat} {r s : Bool} (h : Wn w false x n c f (A : Int)) (hr : r = (s && decide (0 < n))) : Wn w r x n c f (sg s A) := by
  refine ⟨h.rd, h.lm, (wfB_iff _ _ _).2 ⟨h.fm, fun h => by rw [hr] at h; simp at h; exact h.2⟩, h.cap, h.nil, ?_⟩
  have hv := h.nv
  rcases Nat.eq_zero_or_pos n with h0 | h0
  · subst h0
    have hA : (0 : Int) = A := hv
    have : A = 0 := by omega
    subst this; subst hr
    cases s <;> rfl
  · have : r = s := by rw [hr]; simp [h0]
    subst this
    cases r
    · exact hv
    · show -vf f n = -(A : Int); rw [hv]
/-- Three boxes of three cells from block B on; the third can be written. -/
structure Three (B : Nat) (w : World) (a0 a1 a2 b0 b1 b2 c0 c1 c2 : Value) : Prop where
  z : B + 1 + 1 < w.heap.size
  x0 : w.cell? ⟨B, 0, none⟩ = some a0
  x1 : w.cell? ⟨B, 1, none⟩ = some a1
  x2 : w.cell? ⟨B, 2, none⟩ = some a2
  y0 : w.cell? ⟨B + 1, 0, none⟩ = some b0
  y1 : w.cell? ⟨B + 1, 1, none⟩ = some b1
  y2 : w.cell? ⟨B + 1, 2, none⟩ = some b2
  z0 : w.cell? ⟨B + 1 + 1, 0, none⟩ = some c0
  z1 : w.cell? ⟨B + 1 + 1, 1, none⟩ = some c1
  z2 : w.cell? ⟨B + 1 + 1, 2, none⟩ = some c2
  zf : ∀ o, w.frozen? ⟨B + 1 + 1, o, none⟩ = false
theorem Three.below {B w w' a0 a1 a2 b0 b1 b2 c0 c1 c2} (h : Three B w a0 a1 a2 b0 b1 b2 c0 c1 c2) (hb : Below w.heap.size w w') : Three B w' a0 a1 a2 b0 b1 b2 c0 c1 c2 := by
  obtain ⟨h1, h2⟩ := bcell hb
  have hz := hb.size
  have z := h.z
  exact ⟨by omega, kCb hb h.x0, kCb hb h.x1, kCb hb h.x2, kCb hb h.y0, kCb hb h.y1, kCb hb h.y2, kCb hb h.z0, kCb hb h.z1, kCb hb h.z2, fun o => (h2 _ _ (by omega)).trans (h.zf o)⟩
theorem Three.alloc {B w a0 a1 a2 b0 b1 b2 c0 c1 c2} (h : Three B w a0 a1 a2 b0 b1 b2 c0 c1 c2) (o : Obj) : Three B (w.alloc o) a0 a1 a2 b0 b1 b2 c0 c1 c2 := h.below (below_alloc (Below.refl _ _) o)
theorem three_new {w w1 : World} {a0 a1 a2 b0 b1 b2 c0 c1 c2 : Value} {t : TypeId} (hb : Below (((w.alloc (.cells #[a0, a1, a2] t)).alloc (.cells #[b0, b1, b2] t)).alloc (.cells #[c0, c1, c2] t)).heap.size (((w.alloc (.cells #[a0, a1, a2] t)).alloc (.cells #[b0, b1, b2] t)).alloc (.cells #[c0, c1, c2] t)) w1) :
    Three w.heap.size w1 a0 a1 a2 b0 b1 b2 c0 c1 c2 ∧ Below w.heap.size w w1 := by
  have h0 : Three w.heap.size (((w.alloc (.cells #[a0, a1, a2] t)).alloc (.cells #[b0, b1, b2] t)).alloc (.cells #[c0, c1, c2] t)) a0 a1 a2 b0 b1 b2 c0 c1 c2 := by
    refine ⟨by simp, by simp [go_sem], by simp [go_sem], by simp [go_sem], by simp [go_sem], by simp [go_sem], by simp [go_sem], by simp [go_sem], by simp [go_sem], by simp [go_sem], fun o => ?_⟩
    have e := heap_alloc_new ((w.alloc (.cells #[a0, a1, a2] t)).alloc (.cells #[b0, b1, b2] t)) (.cells #[c0, c1, c2] t)
    rw [size_alloc1, size_alloc1] at e
    simp only [World.frozen?, e]; simp
  exact ⟨h0.below hb, (below_alloc (below_alloc (below_alloc (Below.refl w.heap.size w) _) _) _).trans (hb.mono (by simp; omega))⟩
/-- A rational number that a call answers. -/
def RatAns (L : Nat) (w w' : World) (e : Ending) (q : Rat) : Prop := ∃ s x n c f y m d g, e = .returned (.agg #[.bool s, .slice x n c, .slice y m d]) ∧ Below w.heap.size w w' ∧ Rn L w' s x n c f y m d g q
/-- One without an error. -/
def RatTup (L : Nat) (w w' : World) (e : Ending) (q : Rat) : Prop := ∃ s x n c f y m d g, e = .returned (.tuple #[.agg #[.bool s, .slice x n c, .slice y m d], .int .i64 0]) ∧ Below w.heap.size w w' ∧ Rn L w' s x n c f y m d g q
theorem kIb {w w' : World} {a : Addr} (hb : Below w.heap.size w w') (h : (w.cell? a).isSome = true) : (w'.cell? a).isSome = true := by
  obtain ⟨u, hu⟩ := Option.isSome_iff_exists.1 h
  rw [kCb hb hu]; rfl
theorem kWa {w s x n c f v} {o : Obj} (h : Wn w s x n c f v) : Wn (w.alloc o) s x n c f v := h.alloc o
theorem kWd {w s x n c f v} (h : Wn w s x n c f v) : Wn w.drew s x n c f v := ⟨h.rd, h.lm, h.wf, h.cap, h.nil, h.val⟩
theorem kWb {w w' s x n c f v} (hb : Below w.heap.size w w') (h : Wn w s x n c f v) : Wn w' s x n c f v := h.below hb
theorem kTd {B w a0 a1 a2 b0 b1 b2 c0 c1 c2} (h : Three B w a0 a1 a2 b0 b1 b2 c0 c1 c2) : Three B w.drew a0 a1 a2 b0 b1 b2 c0 c1 c2 := ⟨h.z, h.x0, h.x1, h.x2, h.y0, h.y1, h.y2, h.z0, h.z1, h.z2, h.zf⟩
theorem kTb {B w w' a0 a1 a2 b0 b1 b2 c0 c1 c2} (hb : Below w.heap.size w w') (h : Three B w a0 a1 a2 b0 b1 b2 c0 c1 c2) : Three B w' a0 a1 a2 b0 b1 b2 c0 c1 c2 := h.below hb
theorem Three.next {B w w' a0 a1 a2 b0 b1 b2 c0 c1 c2} {o : Obj} (h : Three B w a0 a1 a2 b0 b1 b2 c0 c1 c2) (hb : Below (w.alloc o).heap.size (w.alloc o) w') : Three B w' a0 a1 a2 b0 b1 b2 c0 c1 c2 := (h.alloc o).below hb
theorem cell_off {w : World} {b i j : Nat} {u v : Value} (hij : i ≠ j) (h : w.cell? ⟨b, j, none⟩ = some u) : (w.setCell ⟨b, i, none⟩ v).cell? ⟨b, j, none⟩ = some u := by
  rw [World.cell?_setCell_other _ _ _ _ (fun he => hij (congrArg Addr.off he))]; exact h
theorem Wn.set {w : World} {p : Addr} {v u : Value} {s x n c f z} (hp : w.cell? p = some v) (hv : ∀ i, v ≠ .int .u64 i) (h : Wn w s x n c f z) : Wn (w.setCell p u) s x n c f z := by
  refine ⟨fun j hj => ?_, h.lm, h.wf, h.cap, h.nil, h.val⟩
  obtain ⟨b, o, hx, hc⟩ := h.rd j hj
  refine ⟨b, o, hx, ?_⟩
  rw [World.cell?_setCell_other _ _ _ _ (fun he => hv _ (Option.some.inj (hp.symm.trans (he ▸ hc))))]
  exact hc
/-- The answer's box is written. -/
theorem Three.store {B w a0 a1 a2 b0 b1 b2 e0 e1 n1 m1 e2 n2 m2 u0 u1 u2 s x n c f v} (h : Three B w a0 a1 a2 b0 b1 b2 (.bool e0) (.slice e1 n1 m1) (.slice e2 n2 m2)) (hx : Wn w s x n c f v) :
    Wn (((w.setCell ⟨B + 1 + 1, 0, none⟩ u0).setCell ⟨B + 1 + 1, 1, none⟩ u1).setCell ⟨B + 1 + 1, 2, none⟩ u2) s x n c f v :=
  ((hx.set h.z0 (fun i h => by cases h)).set (cell_off (by decide) h.z1) (fun i h => by cases h)).set (cell_off (by decide) (cell_off (by decide) h.z2)) (fun i h => by cases h)
theorem below_store {w0 w : World} {u0 u1 u2 : Value} (hw : Below w0.heap.size w0 w) :
    Below w0.heap.size w0 (((w.setCell ⟨w0.heap.size + 1 + 1, 0, none⟩ u0).setCell ⟨w0.heap.size + 1 + 1, 1, none⟩ u1).setCell ⟨w0.heap.size + 1 + 1, 2, none⟩ u2) :=
  below_turned hw hw.size ((((Turned.refl w0.heap.size (w0.heap.size + 1 + 1 + 1) w).set (x := ⟨w0.heap.size + 1 + 1, 0, none⟩) (by simp; omega) (by simp) _).set (x := ⟨w0.heap.size + 1 + 1, 1, none⟩) (by simp; omega) (by simp) _).set (x := ⟨w0.heap.size + 1 + 1, 2, none⟩) (by simp; omega) (by simp) _) (Nat.le_refl _)
theorem add_made {a b : Rat} {s : Bool} {S : Int} (hS : S = a.num * (b.den / a.den.gcd b.den : Nat) + b.num * (a.den / a.den.gcd b.den : Nat)) (hs : S = sg s S.natAbs) :
    sg s (S.natAbs / S.natAbs.gcd (a.den.gcd b.den)) = (a + b).num ∧ a.den / a.den.gcd b.den * (b.den / S.natAbs.gcd (a.den.gcd b.den)) = (a + b).den := by
  have hG : 0 < a.den.gcd b.den := Nat.gcd_pos_of_pos_left _ a.den_pos
  have hL : 0 < S.natAbs.gcd (a.den.gcd b.den) := Nat.gcd_pos_of_pos_right _ hG
  obtain ⟨K, hK⟩ := Nat.gcd_dvd_left S.natAbs (a.den.gcd b.den)
  have hN : sg s (S.natAbs / S.natAbs.gcd (a.den.gcd b.den)) * (S.natAbs.gcd (a.den.gcd b.den) : Nat) = S := by
    have h1 : S.natAbs / S.natAbs.gcd (a.den.gcd b.den) = K := by
      have := Nat.mul_div_cancel_left K hL
      rw [← hK] at this; exact this
    rw [h1]
    generalize S.natAbs.gcd (a.den.gcd b.den) = l at hK
    rw [hs, hK]
    cases s
    · show (K : Int) * l = ((l * K : Nat) : Int); rw [Int.natCast_mul, Int.mul_comm]
    · show (-(K : Int)) * l = -((l * K : Nat) : Int); rw [Int.natCast_mul, Int.neg_mul, Int.mul_comm]
  have := radd (a := a) (b := b) rfl (Nat.div_mul_cancel (Nat.gcd_dvd_left _ _)) (Nat.div_mul_cancel (Nat.gcd_dvd_right _ _)) hS rfl (Nat.div_mul_cancel (Nat.dvd_trans (Nat.gcd_dvd_right _ _) (Nat.gcd_dvd_right _ _))) hN
  exact ⟨this.1.symm, this.2.symm⟩

set_option maxRecDepth 100000 in
set_option maxHeartbeats 4000000 in
theorem ratadd_c {L : Nat} {w : World} {sa : Bool} {xa : Option Addr} {na ca : Nat} {fa : Nat → Int} {ya : Option Addr} {ma da : Nat} {ga : Nat → Int} {a : Rat} {sb : Bool} {xb : Option Addr} {nb cb : Nat} {fb : Nat → Int} {yb : Option Addr} {mb db : Nat} {gb : Nat → Int} {b : Rat} (ha : Rn L w sa xa na ca fa ya ma da ga a) (hb : Rn L w sb xb nb cb fb yb mb db gb b) (hL : L ≤ 1000) :
    Calls Tryz.prog 90 #[.agg #[.bool sa, .slice xa na ca, .slice ya ma da], .agg #[.bool sb, .slice xb nb cb, .slice yb mb db]] w fun e w' => RatAns (2 * L + 1) w w' e (a + b) := by
  have HA0 := hid ha; have HB0 := hid hb
  have b1 := ha.ln; have b2 := ha.ld; have b3 := hb.ln; have b4 := hb.ld
  clear ha hb
  go_enter Tryz.func90, Tryz.ntmps90
  go_wp2_with fail
  refine (ratGcd_c (((HA0.out.den.alloc _).alloc _).alloc _) (((HB0.out.den.alloc _).alloc _).alloc _) (by omega) (by omega)).mono ?_
  rintro e w1 ⟨zg, kg, cg, fg, rfl, hbel, hg⟩
  obtain ⟨⟨hz, x0, x1, x2, y0, y1, y2, z0, z1, z2, zf⟩, hw⟩ := three_new hbel
  have T1 : Hid (Three w.heap.size w1 _ _ _ _ _ _ _ _ _) := ⟨hz, x0, x1, x2, y0, y1, y2, z0, z1, z2, zf⟩
  have HW1 := hid hw; have WG1 := hid hg; have HA1 := hid (HA0.out.below hw); have HB1 := hid (HB0.out.below hw)
  have hG0 : 0 < a.den.gcd b.den := Nat.gcd_pos_of_pos_left _ a.den_pos
  have hkg : kg ≤ L := Nat.le_trans (hg.len_le HA1.out.den (Nat.gcd_le_left _ a.den_pos)) (by omega)
  clear hbel hw hg HA0 HB0
  have C1 : Hid ((∀ W, Below w1.heap.size w1 W → Calls Tryz.prog 125 #[.slice ya ma da, .slice zg kg cg] W fun e w' => ∃ z k e' h, e = .returned (.slice z k e') ∧ Below W.heap.size W w' ∧ Hid (k ≤ L ∧ Wn w' false z k e' h (a.den / a.den.gcd b.den : Nat)))) := fun W hW => (over_c (HA1.out.den.below hW) (WG1.out.below hW) hG0 (by omega) (by omega)).mono (fun e w' ⟨z, k, e', h, h1, h2, h3⟩ => ⟨z, k, e', h, h1, h2, by have := h3.out.1; omega, h3.out.2⟩)
  have C2 : Hid ((∀ W, Below w1.heap.size w1 W → Calls Tryz.prog 125 #[.slice yb mb db, .slice zg kg cg] W fun e w' => ∃ z k e' h, e = .returned (.slice z k e') ∧ Below W.heap.size W w' ∧ Hid (k ≤ L ∧ Wn w' false z k e' h (b.den / a.den.gcd b.den : Nat)))) := fun W hW => (over_c (HB1.out.den.below hW) (WG1.out.below hW) hG0 (by omega) (by omega)).mono (fun e w' ⟨z, k, e', h, h1, h2, h3⟩ => ⟨z, k, e', h, h1, h2, by have := h3.out.1; omega, h3.out.2⟩)
  go_wp2_with fail
  go_region_held3 (fun w' => w'.cell? ⟨w.heap.size, 2, none⟩ = some (.slice ya ma da) ∧ w'.cell? ⟨w.heap.size + 1, 2, none⟩ = some (.slice yb mb db))
    (refine ⟨?_, ?_⟩ <;> repeat (with_reducible first | assumption | refine kCd ?_ | refine kCa ?_ | refine kCb (by assumption) ?_))
    (first
      | (go_at_call 125; with_reducible refine (C1.out _ (by repeat (with_reducible first | assumption | exact Below.refl _ _ | refine Below.drew ?_ | refine kBa ?_ | refine kBb (by assumption) ?_))).mono ?_; rintro e w2 ⟨zp, kp, cp, fp, rfl, hb2, HP⟩)
      | (go_at_call 125; with_reducible refine (C2.out _ (by repeat (with_reducible first | assumption | exact Below.refl _ _ | refine Below.drew ?_ | refine kBa ?_ | refine kBb (by assumption) ?_))).mono ?_; rintro e w3 ⟨zq, kq, cq, fq, rfl, hb3, HQ⟩))
  have hb : Below w1.heap.size w1 w3 := (by repeat (with_reducible first | assumption | exact Below.refl _ _ | refine Below.drew ?_ | refine kBa ?_ | refine kBb (by assumption) ?_))
  have hkp := HP.out.1; have hkq := HQ.out.1
  have WP3 := hid (HP.out.2.below hb3)
  have WQ3 := hid HQ.out.2
  clear HP HQ C1 C2 hb2 hb3
  have HA3 := hid (HA1.out.below hb); have HB3 := hid (HB1.out.below hb); have T3 := hid (T1.out.below hb); have WG3 := hid (WG1.out.below hb); have HW3 := hid (HW1.out.trans (hb.mono HW1.out.size))
  clear HA1 HB1 T1 WG1 HW1 hb
  clear hz x0 x1 x2 y0 y1 y2 z0 z1 z2 zf
  obtain ⟨hz, x0, x1, x2, y0, y1, y2, z0, z1, z2, zf⟩ := T3.out
  have hza : w.heap.size < w3.heap.size := by omega
  have hzb : w.heap.size + 1 < w3.heap.size := by omega
  go_wp2_with fail
  refine (numer_c sa xa ya na ca ma da _).mono ?_
  rintro e w4 ⟨rfl, hb⟩
  have HA4 := hid (HA3.out.below hb); have HB4 := hid (HB3.out.below hb); have T4 := hid (T3.out.below hb); have WG4 := hid (WG3.out.below hb); have WP4 := hid (WP3.out.below hb); have WQ4 := hid (WQ3.out.below hb); have HW4 := hid (HW3.out.trans (hb.mono HW3.out.size))
  clear HA3 HB3 T3 WG3 WP3 WQ3 HW3 hb
  clear hza hzb hz x0 x1 x2 y0 y1 y2 z0 z1 z2 zf
  obtain ⟨hz, x0, x1, x2, y0, y1, y2, z0, z1, z2, zf⟩ := T4.out
  have hza : w.heap.size < w4.heap.size := by omega
  have hzb : w.heap.size + 1 < w4.heap.size := by omega
  go_wp2_with fail
  refine (mul_n HA4.out.num WQ4.out (by omega) (by omega)).mono ?_
  rintro e w5 ⟨s5, p5, k5, c5, f5, rfl, hb, hk5, hp⟩
  have WX5 := hid hp
  clear hp WQ4
  have HA5 := hid (HA4.out.below hb); have HB5 := hid (HB4.out.below hb); have T5 := hid (T4.out.below hb); have WG5 := hid (WG4.out.below hb); have WP5 := hid (WP4.out.below hb); have HW5 := hid (HW4.out.trans (hb.mono HW4.out.size))
  clear HA4 HB4 T4 WG4 WP4 HW4 hb
  clear hza hzb hz x0 x1 x2 y0 y1 y2 z0 z1 z2 zf
  obtain ⟨hz, x0, x1, x2, y0, y1, y2, z0, z1, z2, zf⟩ := T5.out
  have hza : w.heap.size < w5.heap.size := by omega
  have hzb : w.heap.size + 1 < w5.heap.size := by omega
  go_wp2_with fail
  refine (numer_c sb xb yb nb cb mb db _).mono ?_
  rintro e w6 ⟨rfl, hb⟩
  have BX6 := hid (bx_new hb)
  have HB6 := hid (HB5.out.next hb); have T6 := hid (T5.out.next hb); have WG6 := hid (WG5.out.next hb); have WP6 := hid (WP5.out.next hb); have WX6 := hid (WX5.out.next hb); have HW6 := hid ((below_alloc HW5.out _).trans (hb.mono (below_alloc HW5.out _).size))
  clear HB5 T5 WG5 WP5 WX5 HW5 hb
  clear hza hzb hz x0 x1 x2 y0 y1 y2 z0 z1 z2 zf
  obtain ⟨hz, x0, x1, x2, y0, y1, y2, z0, z1, z2, zf⟩ := T6.out
  have hza : w.heap.size < w6.heap.size := by omega
  have hzb : w.heap.size + 1 < w6.heap.size := by omega
  go_wp2_with fail
  refine (mul_n HB6.out.num WP6.out (by omega) (by omega)).mono ?_
  rintro e w7 ⟨s7, p7, k7, c7, f7, rfl, hb, hk7, hp⟩
  have WY7 := hid hp
  clear hp
  have HB7 := hid (HB6.out.below hb); have T7 := hid (T6.out.below hb); have WG7 := hid (WG6.out.below hb); have WP7 := hid (WP6.out.below hb); have WX7 := hid (WX6.out.below hb); have BX7 := hid (BX6.out.below hb); have HW7 := hid (HW6.out.trans (hb.mono HW6.out.size))
  clear HB6 T6 WG6 WP6 WX6 BX6 HW6 hb
  clear hza hzb hz x0 x1 x2 y0 y1 y2 z0 z1 z2 zf
  obtain ⟨hz, x0, x1, x2, y0, y1, y2, z0, z1, z2, zf⟩ := T7.out
  have hza : w.heap.size < w7.heap.size := by omega
  have hzb : w.heap.size + 1 < w7.heap.size := by omega
  obtain ⟨hzx, bx0, bx1⟩ := BX7.out
  go_wp2_with fail
  refine (add_n (WX7.out.alloc _) (WY7.out.alloc _) (by omega) (by omega)).mono ?_
  rintro e w8 ⟨s8, p8, k8, c8, f8, rfl, hb, hk8, hp⟩
  have WS8 := hid hp
  clear hp hzx bx0 bx1 WX7 WY7 BX7
  have HB8 := hid (HB7.out.next hb); have T8 := hid (T7.out.next hb); have WG8 := hid (WG7.out.next hb); have WP8 := hid (WP7.out.next hb); have HW8 := hid ((below_alloc HW7.out _).trans (hb.mono (below_alloc HW7.out _).size))
  clear HB7 T7 WG7 WP7 HW7 hb
  clear hza hzb hz x0 x1 x2 y0 y1 y2 z0 z1 z2 zf
  obtain ⟨hz, x0, x1, x2, y0, y1, y2, z0, z1, z2, zf⟩ := T8.out
  have hza : w.heap.size < w8.heap.size := by omega
  have hzb : w.heap.size + 1 < w8.heap.size := by omega
  have hz8 := hz
  obtain ⟨S, hS⟩ : ∃ S, S = a.num * (b.den / a.den.gcd b.den : Nat) + b.num * (a.den / a.den.gcd b.den : Nat) := ⟨_, rfl⟩
  rw [← hS] at WS8
  have HS := hid hS
  clear hS
  go_wp2_with fail
  refine (ratGcd_c (WS8.out.mag.alloc _) (WG8.out.alloc _) (by omega) (by omega)).mono ?_
  rintro e w9 ⟨zl, kl, cl, fl, rfl, hb, hl⟩
  have WL9 := hid hl; have BS9 := hid (bx_new hb)
  have hl0 : 0 < S.natAbs.gcd (a.den.gcd b.den) := Nat.gcd_pos_of_pos_right _ hG0
  have hkl : kl ≤ L := Nat.le_trans (hl.len_le WG8.out (Nat.gcd_le_right _ hG0)) (by omega)
  clear hl WG8
  have HB9 := hid (HB8.out.next hb); have T9 := hid (T8.out.next hb); have WP9 := hid (WP8.out.next hb); have WS9 := hid (WS8.out.next hb); have HW9 := hid ((below_alloc HW8.out _).trans (hb.mono (below_alloc HW8.out _).size))
  clear HB8 T8 WP8 WS8 HW8 hb
  clear hza hzb hz x0 x1 x2 y0 y1 y2 z0 z1 z2 zf
  obtain ⟨hz, x0, x1, x2, y0, y1, y2, z0, z1, z2, zf⟩ := T9.out
  have hza : w.heap.size < w9.heap.size := by omega
  have hzb : w.heap.size + 1 < w9.heap.size := by omega
  go_wp2_with fail
  refine (over_c HB9.out.den WL9.out hl0 (by omega) (by omega)).mono ?_
  rintro e w10 ⟨zo, ko, co, fo, rfl, hb, HO⟩
  have hko := HO.out.1; have WO10 := hid HO.out.2
  clear HO HB9
  have T10 := hid (T9.out.below hb); have WP10 := hid (WP9.out.below hb); have WS10 := hid (WS9.out.below hb); have WL10 := hid (WL9.out.below hb); have BS10 := hid (BS9.out.below hb); have HW10 := hid (HW9.out.trans (hb.mono HW9.out.size))
  clear T9 WP9 WS9 WL9 BS9 HW9 hb
  clear hza hzb hz x0 x1 x2 y0 y1 y2 z0 z1 z2 zf
  obtain ⟨hz, x0, x1, x2, y0, y1, y2, z0, z1, z2, zf⟩ := T10.out
  have hza : w.heap.size < w10.heap.size := by omega
  have hzb : w.heap.size + 1 < w10.heap.size := by omega
  go_wp2_with fail
  refine (natMul_n WP10.out WO10.out (by omega) (by omega)).mono ?_
  rintro e w11 ⟨zd, kd, cd, fd, rfl, hb, hkd, hp⟩
  have WD11 := hid hp
  clear hp WP10 WO10
  have T11 := hid (T10.out.below hb); have WS11 := hid (WS10.out.below hb); have WL11 := hid (WL10.out.below hb); have BS11 := hid (BS10.out.below hb); have HW11 := hid (HW10.out.trans (hb.mono HW10.out.size))
  clear T10 WS10 WL10 BS10 HW10 hb
  clear hza hzb hz x0 x1 x2 y0 y1 y2 z0 z1 z2 zf
  obtain ⟨hz, x0, x1, x2, y0, y1, y2, z0, z1, z2, zf⟩ := T11.out
  have hza : w.heap.size < w11.heap.size := by omega
  have hzb : w.heap.size + 1 < w11.heap.size := by omega
  obtain ⟨hzs, bs0, bs1⟩ := BS11.out
  have C3 : Hid (∀ W, Below w11.heap.size w11 W → Calls Tryz.prog 125 #[.slice p8 k8 c8, .slice zl kl cl] W fun e w' => ∃ z k e' h, e = .returned (.slice z k e') ∧ Below W.heap.size W w' ∧ Hid (k ≤ k8 ∧ Wn w' false z k e' h (S.natAbs / S.natAbs.gcd (a.den.gcd b.den) : Nat))) := fun W hW => over_c (WS11.out.mag.below hW) (WL11.out.below hW) hl0 (by omega) (by omega)
  have C4 : Hid (∀ (W : World) (z : Option Addr) (k c : Nat), k ≤ 4096 → Calls Tryz.prog 89 #[.bool s8, .slice z k c, .slice zd kd cd] W fun e w' => ∃ r, e = .returned (.agg #[.bool r, .slice z k c, .slice zd kd cd]) ∧ Below W.heap.size W w' ∧ Hid (r = (s8 && decide (0 < k)))) := fun W z k c hk => (rsigned_c s8 z zd k c kd cd W (by omega)).mono (fun e w' ⟨r, h1, h2, h3⟩ => ⟨r, h1, h3, h2⟩)
  go_wp2_with fail
  go_region_held3 (fun w' => w'.cell? ⟨w8.heap.size, 0, none⟩ = some (.bool s8) ∧ w'.cell? ⟨w8.heap.size, 1, none⟩ = some (.slice p8 k8 c8) ∧ (w'.cell? ⟨w.heap.size + 1 + 1, 0, none⟩).isSome = true ∧ (w'.cell? ⟨w.heap.size + 1 + 1, 1, none⟩).isSome = true ∧ (w'.cell? ⟨w.heap.size + 1 + 1, 2, none⟩).isSome = true ∧ w'.frozen? ⟨w.heap.size + 1 + 1, 0, none⟩ = false ∧ w'.frozen? ⟨w.heap.size + 1 + 1, 1, none⟩ = false ∧ w'.frozen? ⟨w.heap.size + 1 + 1, 2, none⟩ = false)
    (refine ⟨?_, ?_, ?_, ?_, ?_, ?_, ?_, ?_⟩ <;> repeat (with_reducible first | assumption | exact zf _ | exact uf _ | exact vf' _ | exact kI0 z0 | exact kI0 z1 | exact kI0 z2 | exact kI0 u0 | exact kI0 u1 | exact kI0 u2 | exact kI0 v0 | exact kI0 v1 | exact kI0 v2 | refine kCd ?_ | refine kId ?_ | refine kFd ?_ | refine kCs (by simp only [ne_eq]; omega) ?_ | refine kIs ?_ | refine kFs ?_ | refine kCb (by assumption) ?_ | refine kIb (by assumption) ?_))
    (first
      | (go_at_call 125; with_reducible refine (C3.out _ (by repeat (with_reducible first | assumption | exact Below.refl _ _ | refine Below.drew ?_ | refine kBa ?_ | refine kBb (by assumption) ?_))).mono ?_; rintro e w12 ⟨zn, kn, cn, fn, rfl, hb2, HN⟩; have hkn : kn ≤ 4096 := (by have := HN.out.1; omega); have TU : Three w.heap.size w12 (.bool sa) (.slice xa na ca) (.slice ya ma da) (.bool sb) (.slice xb nb cb) (.slice yb mb db) (.bool false) (.slice none 0 0) (.slice none 0 0) := (by repeat (with_reducible first | exact T11.out | exact TU | refine kTd ?_ | refine kTb (by assumption) ?_)); obtain ⟨_, _, _, _, _, _, _, u0, u1, u2, uf⟩ := id TU)
      | (go_at_call 89; with_reducible refine (C4.out _ zn kn cn hkn).mono ?_; rintro e w13 ⟨rs, rfl, hb3, HRS⟩; have TV : Three w.heap.size w13 (.bool sa) (.slice xa na ca) (.slice ya ma da) (.bool sb) (.slice xb nb cb) (.slice yb mb db) (.bool false) (.slice none 0 0) (.slice none 0 0) := (by repeat (with_reducible first | exact T11.out | exact TU | refine kTd ?_ | refine kTb (by assumption) ?_)); obtain ⟨_, _, _, _, _, _, _, v0, v1, v2, vf'⟩ := id TV))
  have WN : Wn w13 false zn kn cn fn _ := HN.out.2.below hb3
  have hw13 : Below w11.heap.size w11 w13 := (by repeat (with_reducible first | assumption | exact Below.refl _ _ | refine Below.drew ?_ | refine kBa ?_ | refine kBb (by assumption) ?_))
  have hm := add_made HS.out WS11.out.sgn
  have hkn' := HN.out.1
  go_wp2
  refine bodyPost_ret (v := .agg #[.bool rs, .slice zn kn cn, .slice zd kd cd]) (by simp [results, Tryz.results90, go_sem, v0, v1, v2]) rfl ⟨rs, zn, kn, cn, fn, zd, kd, cd, fd, rfl, below_store (HW11.out.trans (hw13.mono HW11.out.size)), ⟨?_, ?_, ?_, ?_⟩⟩
  · rw [← hm.1]; exact TV.store (WN.resign HRS.out)
  · rw [← hm.2]; exact TV.store (WD11.out.below hw13)
  · omega
  · omega
end Go.Proofs.YtclopblgdiahiaaGreatDoor
namespace Go.Proofs.YtclopblgdiahiaaGreatDoor
open Go.RowKit

theorem mul_made {a b : Rat} {s t : Bool} (ha : a.num = sg s a.num.natAbs) (hb : b.num = sg t b.num.natAbs) :
    sg (s != t) (a.num.natAbs / a.num.natAbs.gcd b.den * (b.num.natAbs / b.num.natAbs.gcd a.den)) = (a * b).num ∧ a.den / b.num.natAbs.gcd a.den * (b.den / a.num.natAbs.gcd b.den) = (a * b).den := by
  have := rmul (a := a) (b := b) (s := s) (t := t) (G := a.num.natAbs.gcd b.den) (H := b.num.natAbs.gcd a.den) (NA := a.num.natAbs / a.num.natAbs.gcd b.den) (NB := b.num.natAbs / b.num.natAbs.gcd a.den) (DA := a.den / b.num.natAbs.gcd a.den) (DB := b.den / a.num.natAbs.gcd b.den)
    (by rw [Nat.div_mul_cancel (Nat.gcd_dvd_left _ _)]; exact ha) (by rw [Nat.div_mul_cancel (Nat.gcd_dvd_left _ _)]; exact hb) rfl rfl (Nat.div_mul_cancel (Nat.gcd_dvd_right _ _)) (Nat.div_mul_cancel (Nat.gcd_dvd_right _ _))
  exact ⟨this.1.symm, this.2.symm⟩

set_option maxRecDepth 100000 in
set_option maxHeartbeats 4000000 in
theorem ratmul_c {L : Nat} {w : World} {sa : Bool} {xa : Option Addr} {na ca : Nat} {fa : Nat → Int} {ya : Option Addr} {ma da : Nat} {ga : Nat → Int} {a : Rat} {sb : Bool} {xb : Option Addr} {nb cb : Nat} {fb : Nat → Int} {yb : Option Addr} {mb db : Nat} {gb : Nat → Int} {b : Rat} (ha : Rn L w sa xa na ca fa ya ma da ga a) (hb : Rn L w sb xb nb cb fb yb mb db gb b) (hL : L ≤ 1000) :
    Calls Tryz.prog 98 #[.agg #[.bool sa, .slice xa na ca, .slice ya ma da], .agg #[.bool sb, .slice xb nb cb, .slice yb mb db]] w fun e w' => RatAns (2 * L + 1) w w' e (a * b) := by
  have b1 := ha.ln; have b2 := ha.ld; have b3 := hb.ln; have b4 := hb.ld
  have hbel := Below.refl (((w.alloc (.cells #[.bool sa, .slice xa na ca, .slice ya ma da] 32)).alloc (.cells #[.bool sb, .slice xb nb cb, .slice yb mb db] 32)).alloc (.cells #[.bool false, .slice none 0 0, .slice none 0 0] 32)).heap.size (((w.alloc (.cells #[.bool sa, .slice xa na ca, .slice ya ma da] 32)).alloc (.cells #[.bool sb, .slice xb nb cb, .slice yb mb db] 32)).alloc (.cells #[.bool false, .slice none 0 0, .slice none 0 0] 32))
  obtain ⟨t1, hw⟩ := three_new hbel
  have h1 := (((ha.alloc (.cells #[.bool sa, .slice xa na ca, .slice ya ma da] 32)).alloc (.cells #[.bool sb, .slice xb nb cb, .slice yb mb db] 32)).alloc (.cells #[.bool false, .slice none 0 0, .slice none 0 0] 32))
  have h2 := (((hb.alloc (.cells #[.bool sa, .slice xa na ca, .slice ya ma da] 32)).alloc (.cells #[.bool sb, .slice xb nb cb, .slice yb mb db] 32)).alloc (.cells #[.bool false, .slice none 0 0, .slice none 0 0] 32))
  clear hbel ha hb
  go_enter Tryz.func98, Tryz.ntmps98
  go_wp2_with fail
  generalize ((w.alloc (.cells #[.bool sa, .slice xa na ca, .slice ya ma da] 32)).alloc (.cells #[.bool sb, .slice xb nb cb, .slice yb mb db] 32)).alloc (.cells #[.bool false, .slice none 0 0, .slice none 0 0] 32) = w1 at *
  have HA1 := hid h1; have HB1 := hid h2; have T1 := hid t1; have HW1 := hid hw
  obtain ⟨hz, x0, x1, x2, y0, y1, y2, z0, z1, z2, zf⟩ := t1
  have hza : w.heap.size < w1.heap.size := by omega
  have hzb : w.heap.size + 1 < w1.heap.size := by omega
  clear h1 h2 hw
  have hG0 : 0 < a.num.natAbs.gcd b.den := Nat.gcd_pos_of_pos_right _ b.den_pos
  have hH0 : 0 < b.num.natAbs.gcd a.den := Nat.gcd_pos_of_pos_right _ a.den_pos
  have C1 : Hid (∀ W, Below w1.heap.size w1 W → Calls Tryz.prog 88 #[.slice xa na ca, .slice yb mb db] W fun e w' => ∃ z k e' h, e = .returned (.slice z k e') ∧ Below W.heap.size W w' ∧ Hid (k ≤ L ∧ Wn w' false z k e' h (a.num.natAbs.gcd b.den : Nat))) := fun W hW => (ratGcd_c (HA1.out.num.mag.below hW) (HB1.out.den.below hW) (by omega) (by omega)).mono (fun e w' ⟨z, k, e', h, h1, h2, h3⟩ => ⟨z, k, e', h, h1, h2, Nat.le_trans (h3.len_le ((HB1.out.den.below hW).below h2) (Nat.gcd_le_right _ b.den_pos)) (by omega), h3⟩)
  have C2 : Hid (∀ W, Below w1.heap.size w1 W → Calls Tryz.prog 88 #[.slice xb nb cb, .slice ya ma da] W fun e w' => ∃ z k e' h, e = .returned (.slice z k e') ∧ Below W.heap.size W w' ∧ Hid (k ≤ L ∧ Wn w' false z k e' h (b.num.natAbs.gcd a.den : Nat))) := fun W hW => (ratGcd_c (HB1.out.num.mag.below hW) (HA1.out.den.below hW) (by omega) (by omega)).mono (fun e w' ⟨z, k, e', h, h1, h2, h3⟩ => ⟨z, k, e', h, h1, h2, Nat.le_trans (h3.len_le ((HA1.out.den.below hW).below h2) (Nat.gcd_le_right _ a.den_pos)) (by omega), h3⟩)
  go_region_held3 (fun w' => w'.cell? ⟨w.heap.size, 1, none⟩ = some (.slice xa na ca) ∧ w'.cell? ⟨w.heap.size + 1, 2, none⟩ = some (.slice yb mb db) ∧ w'.cell? ⟨w.heap.size + 1, 1, none⟩ = some (.slice xb nb cb) ∧ w'.cell? ⟨w.heap.size, 2, none⟩ = some (.slice ya ma da))
    (refine ⟨?_, ?_, ?_, ?_⟩ <;> repeat (with_reducible first | assumption | refine kCd ?_ | refine kCa ?_ | refine kCb (by assumption) ?_))
    (first
      | (go_at_call 88; with_reducible refine (C1.out _ (by repeat (with_reducible first | assumption | exact Below.refl _ _ | refine Below.drew ?_ | refine kBa ?_ | refine kBb (by assumption) ?_))).mono ?_; rintro e w2 ⟨zg, kg, cg, fg, rfl, hb2, HG⟩)
      | (go_at_call 88; with_reducible refine (C2.out _ (by repeat (with_reducible first | assumption | exact Below.refl _ _ | refine Below.drew ?_ | refine kBa ?_ | refine kBb (by assumption) ?_))).mono ?_; rintro e w3 ⟨zh, kh, ch, fh, rfl, hb3, HH⟩))
  have WG3 := hid (HG.out.2.below hb3); have WH3 := hid HH.out.2
  have hkg := HG.out.1; have hkh := HH.out.1
  have hb : Below w1.heap.size w1 w3 := (by repeat (with_reducible first | assumption | exact Below.refl _ _ | refine Below.drew ?_ | refine kBa ?_ | refine kBb (by assumption) ?_))
  clear HG HH C1 C2 hb2 hb3
  have HA3 := hid (HA1.out.below hb); have HB3 := hid (HB1.out.below hb); have T3 := hid (T1.out.below hb); have HW3 := hid (HW1.out.trans (hb.mono HW1.out.size))
  clear HA1 HB1 T1 HW1 hb
  clear hza hzb hz x0 x1 x2 y0 y1 y2 z0 z1 z2 zf
  obtain ⟨hz, x0, x1, x2, y0, y1, y2, z0, z1, z2, zf⟩ := T3.out
  have hza : w.heap.size < w3.heap.size := by omega
  have hzb : w.heap.size + 1 < w3.heap.size := by omega
  have C1 : Hid (∀ W, Below w3.heap.size w3 W → Calls Tryz.prog 125 #[.slice xa na ca, .slice zg kg cg] W fun e w' => ∃ z k e' h, e = .returned (.slice z k e') ∧ Below W.heap.size W w' ∧ Hid (k ≤ L ∧ Wn w' false z k e' h (a.num.natAbs / a.num.natAbs.gcd b.den : Nat))) := fun W hW => (over_c (HA3.out.num.mag.below hW) (WG3.out.below hW) hG0 (by omega) (by omega)).mono (fun e w' ⟨z, k, e', h, h1, h2, h3⟩ => ⟨z, k, e', h, h1, h2, by have := h3.out.1; omega, h3.out.2⟩)
  have C2 : Hid (∀ W, Below w3.heap.size w3 W → Calls Tryz.prog 125 #[.slice xb nb cb, .slice zh kh ch] W fun e w' => ∃ z k e' h, e = .returned (.slice z k e') ∧ Below W.heap.size W w' ∧ Hid (k ≤ L ∧ Wn w' false z k e' h (b.num.natAbs / b.num.natAbs.gcd a.den : Nat))) := fun W hW => (over_c (HB3.out.num.mag.below hW) (WH3.out.below hW) hH0 (by omega) (by omega)).mono (fun e w' ⟨z, k, e', h, h1, h2, h3⟩ => ⟨z, k, e', h, h1, h2, by have := h3.out.1; omega, h3.out.2⟩)
  go_wp2_with fail
  go_region_held3 (fun w' => w'.cell? ⟨w.heap.size, 1, none⟩ = some (.slice xa na ca) ∧ w'.cell? ⟨w.heap.size + 1, 1, none⟩ = some (.slice xb nb cb))
    (refine ⟨?_, ?_⟩ <;> repeat (with_reducible first | assumption | refine kCd ?_ | refine kCa ?_ | refine kCb (by assumption) ?_))
    (first
      | (go_at_call 125; with_reducible refine (C1.out _ (by repeat (with_reducible first | assumption | exact Below.refl _ _ | refine Below.drew ?_ | refine kBa ?_ | refine kBb (by assumption) ?_))).mono ?_; rintro e w4 ⟨zp, kp, cp, fp, rfl, hb4, HP⟩)
      | (go_at_call 125; with_reducible refine (C2.out _ (by repeat (with_reducible first | assumption | exact Below.refl _ _ | refine Below.drew ?_ | refine kBa ?_ | refine kBb (by assumption) ?_))).mono ?_; rintro e w5 ⟨zq, kq, cq, fq, rfl, hb5, HQ⟩)
      | (go_at_call 86; with_reducible refine (natMul_n (HP.out.2.below hb5) HQ.out.2 (by have := HP.out.1; omega) (by have := HQ.out.1; omega)).mono ?_; rintro e w6 ⟨zn, kn, cn, fn, rfl, hb6, hkn, hmn⟩))
  have WN6 := hid hmn
  have hkp := HP.out.1; have hkq := HQ.out.1
  have hb : Below w3.heap.size w3 w6 := (by repeat (with_reducible first | assumption | exact Below.refl _ _ | refine Below.drew ?_ | refine kBa ?_ | refine kBb (by assumption) ?_))
  clear HP HQ C1 C2 hb4 hb5 hb6 hmn
  have HA6 := hid (HA3.out.below hb); have HB6 := hid (HB3.out.below hb); have T6 := hid (T3.out.below hb); have WG6 := hid (WG3.out.below hb); have WH6 := hid (WH3.out.below hb); have HW6 := hid (HW3.out.trans (hb.mono HW3.out.size))
  clear HA3 HB3 T3 WG3 WH3 HW3 hb
  clear hza hzb hz x0 x1 x2 y0 y1 y2 z0 z1 z2 zf
  obtain ⟨hz, x0, x1, x2, y0, y1, y2, z0, z1, z2, zf⟩ := T6.out
  have hza : w.heap.size < w6.heap.size := by omega
  have hzb : w.heap.size + 1 < w6.heap.size := by omega
  have C1 : Hid (∀ W, Below w6.heap.size w6 W → Calls Tryz.prog 125 #[.slice ya ma da, .slice zh kh ch] W fun e w' => ∃ z k e' h, e = .returned (.slice z k e') ∧ Below W.heap.size W w' ∧ Hid (k ≤ L ∧ Wn w' false z k e' h (a.den / b.num.natAbs.gcd a.den : Nat))) := fun W hW => (over_c (HA6.out.den.below hW) (WH6.out.below hW) hH0 (by omega) (by omega)).mono (fun e w' ⟨z, k, e', h, h1, h2, h3⟩ => ⟨z, k, e', h, h1, h2, by have := h3.out.1; omega, h3.out.2⟩)
  have C2 : Hid (∀ W, Below w6.heap.size w6 W → Calls Tryz.prog 125 #[.slice yb mb db, .slice zg kg cg] W fun e w' => ∃ z k e' h, e = .returned (.slice z k e') ∧ Below W.heap.size W w' ∧ Hid (k ≤ L ∧ Wn w' false z k e' h (b.den / a.num.natAbs.gcd b.den : Nat))) := fun W hW => (over_c (HB6.out.den.below hW) (WG6.out.below hW) hG0 (by omega) (by omega)).mono (fun e w' ⟨z, k, e', h, h1, h2, h3⟩ => ⟨z, k, e', h, h1, h2, by have := h3.out.1; omega, h3.out.2⟩)
  go_wp2_with fail
  go_region_held3 (fun w' => w'.cell? ⟨w.heap.size, 2, none⟩ = some (.slice ya ma da) ∧ w'.cell? ⟨w.heap.size + 1, 2, none⟩ = some (.slice yb mb db))
    (refine ⟨?_, ?_⟩ <;> repeat (with_reducible first | assumption | refine kCd ?_ | refine kCa ?_ | refine kCb (by assumption) ?_))
    (first
      | (go_at_call 125; with_reducible refine (C1.out _ (by repeat (with_reducible first | assumption | exact Below.refl _ _ | refine Below.drew ?_ | refine kBa ?_ | refine kBb (by assumption) ?_))).mono ?_; rintro e w7 ⟨zr, kr, cr, fr, rfl, hb7, HP⟩)
      | (go_at_call 125; with_reducible refine (C2.out _ (by repeat (with_reducible first | assumption | exact Below.refl _ _ | refine Below.drew ?_ | refine kBa ?_ | refine kBb (by assumption) ?_))).mono ?_; rintro e w8 ⟨zs, ks, cs, fs, rfl, hb8, HQ⟩)
      | (go_at_call 86; with_reducible refine (natMul_n (HP.out.2.below hb8) HQ.out.2 (by have := HP.out.1; omega) (by have := HQ.out.1; omega)).mono ?_; rintro e w9 ⟨zd, kd, cd, fd, rfl, hb9, hkd, hmd⟩))
  have WD9 := hid hmd
  have hkr := HP.out.1; have hks := HQ.out.1
  have hb : Below w6.heap.size w6 w9 := (by repeat (with_reducible first | assumption | exact Below.refl _ _ | refine Below.drew ?_ | refine kBa ?_ | refine kBb (by assumption) ?_))
  clear HP HQ C1 C2 hb7 hb8 hb9 hmd
  have HA9 := hid (HA6.out.below hb); have HB9 := hid (HB6.out.below hb); have T9 := hid (T6.out.below hb); have WN9 := hid (WN6.out.below hb); have HW9 := hid (HW6.out.trans (hb.mono HW6.out.size))
  clear HA6 HB6 T6 WN6 HW6 hb
  clear hza hzb hz x0 x1 x2 y0 y1 y2 z0 z1 z2 zf
  obtain ⟨hz, x0, x1, x2, y0, y1, y2, z0, z1, z2, zf⟩ := T9.out
  have hza : w.heap.size < w9.heap.size := by omega
  have hzb : w.heap.size + 1 < w9.heap.size := by omega
  go_wp2_with fail
  refine (rsigned_c _ zn zd kn cn kd cd _ (by omega)).mono ?_
  rintro e w10 ⟨rs, rfl, HRS, hb⟩
  have HA10 := hid (HA9.out.below hb); have HB10 := hid (HB9.out.below hb); have T10 := hid (T9.out.below hb); have WN10 := hid (WN9.out.below hb); have WD10 := hid (WD9.out.below hb); have HW10 := hid (HW9.out.trans (hb.mono HW9.out.size))
  clear HA9 HB9 T9 WN9 WD9 HW9 hb
  clear hza hzb hz x0 x1 x2 y0 y1 y2 z0 z1 z2 zf
  obtain ⟨hz, x0, x1, x2, y0, y1, y2, z0, z1, z2, zf⟩ := T10.out
  have hza : w.heap.size < w10.heap.size := by omega
  have hzb : w.heap.size + 1 < w10.heap.size := by omega
  have hm := mul_made HA10.out.num.sgn HB10.out.num.sgn
  go_wp2
  refine bodyPost_ret (v := .agg #[.bool rs, .slice zn kn cn, .slice zd kd cd]) (by simp [results, Tryz.results98, go_sem, z0, z1, z2]) rfl ⟨rs, zn, kn, cn, fn, zd, kd, cd, fd, rfl, below_store HW10.out, ⟨?_, ?_, ?_, ?_⟩⟩
  · rw [← hm.1]; exact T10.out.store (WN10.out.resign HRS.out)
  · rw [← hm.2]; exact T10.out.store WD10.out
  · omega
  · omega
end Go.Proofs.YtclopblgdiahiaaGreatDoor
namespace Go.Proofs.YtclopblgdiahiaaGreatDoor
open Go.RowKit

/-- Two lists of limbs that can be read: numerator and denominator, in form or not. -/
structure Rw (w : World) (x : Option Addr) (n c : Nat) (f : Nat → Int) (y : Option Addr) (m d : Nat) (g : Nat → Int) : Prop where
  rx : Rd .u64 w x n f
  lx : Lm f n
  cx : n ≤ c ∧ c ≤ 9223372036854775807
  nx : x = none → n = 0 ∧ c = 0
  ry : Rd .u64 w y m g
  ly : Lm g m
  cy : m ≤ d ∧ d ≤ 9223372036854775807
  ny : y = none → m = 0 ∧ d = 0
theorem Rw.below {w w' x n c f y m d g} (h : Rw w x n c f y m d g) (hb : Below w.heap.size w w') : Rw w' x n c f y m d g := ⟨h.rx.below hb (Nat.le_refl _), h.lx, h.cx, h.nx, h.ry.below hb (Nat.le_refl _), h.ly, h.cy, h.ny⟩
theorem Rw.alloc {w x n c f y m d g} (h : Rw w x n c f y m d g) (o : Obj) : Rw (w.alloc o) x n c f y m d g := h.below (below_alloc (Below.refl _ _) o)
/-- In form: sign, limbs, and nothing in common. -/
def rfB (s : Bool) (f : Nat → Int) (n : Nat) (g : Nat → Int) (m : Nat) : Bool := wfB s f n && (fmB g m && (decide (0 < m) && decide ((vf f n).toNat.gcd (vf g m).toNat = 1)))
theorem natAbs_wv {s : Bool} {f : Nat → Int} {n : Nat} (h : Lm f n) : (wv s f n).natAbs = (vf f n).toNat := by
  have h0 := vf_nonneg h
  cases s
  · rw [wv_false]; omega
  · rw [wv_true]; omega
/-- What is in form is a number. -/
theorem Rw.rn {w s x n c f y m d g L} (h : Rw w x n c f y m d g) (hf : rfB s f n g m = true) (hn : n ≤ L) (hm : m ≤ L) : ∃ q, Rn L w s x n c f y m d g q := by
  simp only [rfB, Bool.and_eq_true, decide_eq_true_eq] at hf
  obtain ⟨h1, h2, h3, h4⟩ := hf
  have hp := vf_pos h.ly (fm_of h2) h3
  refine ⟨⟨wv s f n, (vf g m).toNat, by omega, by rw [natAbs_wv h.lx]; exact h4⟩, ⟨h.rx, h.lx, h1, h.cx, h.nx, rfl⟩, ⟨h.ry, h.ly, (wfB_iff _ _ _).2 ⟨fm_of h2, fun h => by cases h⟩, h.cy, h.ny, ?_⟩, hn, hm⟩
  show vf g m = ((vf g m).toNat : Int)
  omega
theorem Rn.rw {L w s x n c f y m d g q} (h : Rn L w s x n c f y m d g q) : Rw w x n c f y m d g := ⟨h.num.rd, h.num.lm, h.num.cap, h.num.nil, h.den.rd, h.den.lm, h.den.cap, h.den.nil⟩
theorem Rn.rf {L w s x n c f y m d g q} (h : Rn L w s x n c f y m d g q) : rfB s f n g m = true := by
  simp only [rfB, Bool.and_eq_true, decide_eq_true_eq]
  have hd := q.den_pos
  refine ⟨h.num.wf, (fmB_iff _ _).2 h.den.fm, h.den.pos (by omega), ?_⟩
  rw [← natAbs_wv (s := s) h.num.lm, h.num.val, h.den.nv]
  exact q.reduced
theorem Rn.inj {L L' w w' s t x n c f y m d g x' n' c' f' y' m' d' g' q r} (h : Rn L w s x n c f y m d g q) (h' : Rn L' w' t x' n' c' f' y' m' d' g' r) : (s = t ∧ Alk n n' f f' ∧ Alk m m' g g') ↔ q = r := by
  constructor
  · rintro ⟨rfl, ⟨rfl, h1⟩, ⟨rfl, h2⟩⟩
    have e1 : vf f n = vf f' n := vf_congr h1
    have e2 : vf g m = vf g' m := vf_congr h2
    refine Rat.ext ?_ ?_
    · rw [← h.num.val, ← h'.num.val]
      cases s
      · rw [wv_false, wv_false, e1]
      · rw [wv_true, wv_true, e1]
    · have := h.den.nv; have := h'.den.nv; omega
  · rintro rfl
    have ha := vf_nonneg h.num.lm; have hb := vf_nonneg h'.num.lm
    have e2 := vf_inj h.den.lm h'.den.lm h.den.fm h'.den.fm (h.den.nv.trans h'.den.nv.symm)
    have v1 := h.num.val; have v2 := h'.num.val
    have p1 := sgn_of_wfB h.num.wf; have p2 := sgn_of_wfB h'.num.wf
    have q1 : 0 < n → 0 < vf f n := vf_pos h.num.lm h.num.fm
    have q2 : 0 < n' → 0 < vf f' n' := vf_pos h'.num.lm h'.num.fm
    cases s <;> cases t
    · rw [wv_false] at v1 v2
      exact ⟨rfl, vf_inj h.num.lm h'.num.lm h.num.fm h'.num.fm (v1.trans v2.symm), e2⟩
    · rw [wv_false] at v1; rw [wv_true] at v2
      have := q2 (p2 rfl)
      omega
    · rw [wv_true] at v1; rw [wv_false] at v2
      have := q1 (p1 rfl)
      omega
    · rw [wv_true] at v1 v2
      exact ⟨rfl, vf_inj h.num.lm h'.num.lm h.num.fm h'.num.fm (by omega), e2⟩
/-- A box of three cells at block B. -/
structure Bx3 (w : World) (B : Nat) (a0 a1 a2 : Value) : Prop where
  z : B < w.heap.size
  x0 : w.cell? ⟨B, 0, none⟩ = some a0
  x1 : w.cell? ⟨B, 1, none⟩ = some a1
  x2 : w.cell? ⟨B, 2, none⟩ = some a2
theorem Bx3.below {w w' B a0 a1 a2} (h : Bx3 w B a0 a1 a2) (hb : Below w.heap.size w w') : Bx3 w' B a0 a1 a2 := ⟨Nat.lt_of_lt_of_le h.z hb.size, kCb hb h.x0, kCb hb h.x1, kCb hb h.x2⟩
theorem Bx3.alloc {w B a0 a1 a2} (h : Bx3 w B a0 a1 a2) (o : Obj) : Bx3 (w.alloc o) B a0 a1 a2 := h.below (below_alloc (Below.refl _ _) o)
theorem Bx3.next {w w' B a0 a1 a2} {o : Obj} (h : Bx3 w B a0 a1 a2) (hb : Below (w.alloc o).heap.size (w.alloc o) w') : Bx3 w' B a0 a1 a2 := (h.alloc o).below hb
theorem bx3_at (w : World) (a0 a1 a2 : Value) (t : TypeId) : Bx3 (w.alloc (.cells #[a0, a1, a2] t)) w.heap.size a0 a1 a2 := ⟨by simp, by simp [go_sem], by simp [go_sem], by simp [go_sem]⟩
theorem bx3_new {w w' : World} {a0 a1 a2 : Value} {t : TypeId} (hb : Below (w.alloc (.cells #[a0, a1, a2] t)).heap.size (w.alloc (.cells #[a0, a1, a2] t)) w') : Bx3 w' w.heap.size a0 a1 a2 := (bx3_at w a0 a1 a2 t).below hb

set_option maxHeartbeats 1000000 in
theorem rForm_c {w : World} {s x n c f y m d g} (h : Rw w x n c f y m d g) (hn : n ≤ 4096) (hm : m ≤ 4096) :
    Calls Tryz.prog 50 #[.agg #[.bool s, .slice x n c, .slice y m d]] w fun e w' => e = .returned (.bool (rfB s f n g m)) ∧ Below w.heap.size w w' := by
  have H := hid h
  have hrf : rfB s f n g m = (wfB s f n && (fmB g m && (decide (0 < m) && decide ((vf f n).toNat.gcd (vf g m).toNat = 1)))) := rfl
  rw [hrf]
  clear h hrf
  go_enter Tryz.func50, Tryz.ntmps50
  go_wp2_with fail
  refine (numer_c s x y n c m d _).mono ?_
  rintro e w1 ⟨rfl, hb⟩
  have B1 := hid (bx3_new hb); have HW1 : Hid (Below w.heap.size w w1) := (below_alloc (Below.refl w.heap.size w) _).trans (hb.mono (by simp))
  clear hb
  obtain ⟨z, x0, x1, x2⟩ := B1.out
  go_wp2_with fail
  refine (wForm_c s x n c f _ (by omega) (H.out.rx.below HW1.out (Nat.le_refl _))).mono ?_
  rintro e w2 ⟨rfl, hb⟩
  have B2 := hid (B1.out.below hb); have HW2 := hid (HW1.out.trans (hb.mono HW1.out.size))
  clear hb B1 z x0 x1 x2 HW1
  obtain ⟨z, x0, x1, x2⟩ := B2.out
  cases h1 : wfB s f n
  · have E : Hid ((wfB s f n && (fmB g m && (decide (0 < m) && decide ((vf f n).toNat.gcd (vf g m).toNat = 1)))) = false) := hid (by rw [h1]; rfl)
    go_wp2
    go_ret
    exact ⟨by rw [E.out]; rfl, HW2.out⟩
  have F1 := hid h1
  clear h1
  have c2 := form_c y m d g w2 (by omega) (H.out.ry.below HW2.out (Nat.le_refl _))
  go_wp2_with fail
  refine c2.mono ?_
  rintro e w3 ⟨rfl, rfl⟩
  clear c2
  cases h2 : fmB g m
  · have E : Hid ((wfB s f n && (fmB g m && (decide (0 < m) && decide ((vf f n).toNat.gcd (vf g m).toNat = 1)))) = false) := hid (by rw [F1.out, h2]; rfl)
    go_wp2
    go_ret
    exact ⟨by rw [E.out]; rfl, HW2.out⟩
  by_cases h3 : 0 < m
  · have h3' : ((m : Int) == 0) = false := by simp; omega
    have hd3 : decide (0 < m) = true := by simp; omega
    have E : Hid ((wfB s f n && (fmB g m && (decide (0 < m) && decide ((vf f n).toNat.gcd (vf g m).toNat = 1)))) = decide ((((vf f n).toNat.gcd (vf g m).toNat : Nat) : Int) = 1)) := hid (by
      rw [F1.out, h2, hd3, Bool.true_and, Bool.true_and, Bool.true_and]
      by_cases h : (vf f n).toNat.gcd (vf g m).toNat = 1
      · simp [h]
      · have : ¬ ((((vf f n).toNat.gcd (vf g m).toNat : Nat) : Int) = 1) := by omega
        simp [h, this])
    have hh := (H.out.below HW2.out)
    have W1 : Wn w3 false x n c f ((vf f n).toNat : Nat) := ⟨hh.rx, hh.lx, (wfB_iff _ _ _).2 ⟨fm_of_wfB F1.out, fun h => by cases h⟩, hh.cx, hh.nx, by have := vf_nonneg hh.lx; show vf f n = _; omega⟩
    have W2 : Wn w3 false y m d g ((vf g m).toNat : Nat) := ⟨hh.ry, hh.ly, (wfB_iff _ _ _).2 ⟨fm_of h2, fun h => by cases h⟩, hh.cy, hh.ny, by have := vf_nonneg hh.ly; show vf g m = _; omega⟩
    have C3 := hid (ratGcd_c W1 W2 (by omega) (by omega))
    clear hh W1 W2 hd3 h2 h3
    go_wp2_with fail
    refine C3.out.mono ?_
    rintro e w4 ⟨zg, kg, cg, fg, rfl, hb, hg⟩
    have C4 := hid (isOne_c hg)
    clear hg
    go_wp2_with fail
    refine C4.out.mono ?_
    rintro e w5 ⟨rfl, rfl⟩
    go_wp2
    go_ret
    exact ⟨by rw [E.out]; rfl, HW2.out.trans (hb.mono HW2.out.size)⟩
  · have h3' : m = 0 := by omega
    have E : Hid ((wfB s f n && (fmB g m && (decide (0 < m) && decide ((vf f n).toNat.gcd (vf g m).toNat = 1)))) = false) := hid (by simp [h3'])
    subst h3'
    go_wp2
    go_ret
    exact ⟨by rw [E.out]; rfl, HW2.out⟩
theorem rForm_n {L w s x n c f y m d g q} (h : Rn L w s x n c f y m d g q) (hL : L ≤ 4096) :
    Calls Tryz.prog 50 #[.agg #[.bool s, .slice x n c, .slice y m d]] w fun e w' => e = .returned (.bool true) ∧ Below w.heap.size w w' := by
  have h1 := h.ln; have h2 := h.ld
  have := rForm_c (s := s) h.rw (by omega) (by omega)
  rw [h.rf] at this
  exact this

set_option maxRecDepth 100000 in
set_option maxHeartbeats 4000000 in
theorem rAdd_n {L : Nat} {w : World} {sa : Bool} {xa : Option Addr} {na ca : Nat} {fa : Nat → Int} {ya : Option Addr} {ma da : Nat} {ga : Nat → Int} {a : Rat} {sb : Bool} {xb : Option Addr} {nb cb : Nat} {fb : Nat → Int} {yb : Option Addr} {mb db : Nat} {gb : Nat → Int} {b : Rat} (ha : Rn L w sa xa na ca fa ya ma da ga a) (hb : Rn L w sb xb nb cb fb yb mb db gb b) (hL : L ≤ 1000) :
    Calls Tryz.prog 45 #[.agg #[.bool sa, .slice xa na ca, .slice ya ma da], .agg #[.bool sb, .slice xb nb cb, .slice yb mb db]] w fun e w' => RatTup (2 * L + 1) w w' e (a + b) := by
  have HA0 := hid ha; have HB0 := hid hb
  clear ha hb
  go_enter Tryz.func45, Tryz.ntmps45
  go_wp2_with fail
  refine (rForm_n (((HA0.out.alloc _).alloc _).alloc _) (by omega)).mono ?_
  rintro e w1 ⟨rfl, hbel⟩
  obtain ⟨⟨hz, x0, x1, x2, y0, y1, y2, z0, z1, z2, zf⟩, hw⟩ := three_new hbel
  have T1 : Hid (Three w.heap.size w1 _ _ _ _ _ _ _ _ _) := ⟨hz, x0, x1, x2, y0, y1, y2, z0, z1, z2, zf⟩
  have HW1 := hid hw; have HA1 := hid (HA0.out.below hw); have HB1 := hid (HB0.out.below hw)
  clear hbel hw HA0 HB0
  go_wp2_with fail
  refine (rForm_n HB1.out (by omega)).mono ?_
  rintro e w2 ⟨rfl, hb⟩
  have HA2 := hid (HA1.out.below hb); have HB2 := hid (HB1.out.below hb); have T2 := hid (T1.out.below hb); have HW2 := hid (HW1.out.trans (hb.mono HW1.out.size))
  clear HA1 HB1 T1 HW1 hb
  clear hz x0 x1 x2 y0 y1 y2 z0 z1 z2 zf
  obtain ⟨hz, x0, x1, x2, y0, y1, y2, z0, z1, z2, zf⟩ := T2.out
  have hza : w.heap.size < w2.heap.size := by omega
  have hzb : w.heap.size + 1 < w2.heap.size := by omega
  go_wp2_with fail
  refine (ratadd_c HA2.out HB2.out hL).mono ?_
  rintro e w3 ⟨rs, zn, kn, cn, fn, zd, kd, cd, fd, rfl, hb, hr⟩
  have HR := hid hr
  clear hr
  have T3 := hid (T2.out.below hb); have HW3 := hid (HW2.out.trans (hb.mono HW2.out.size))
  clear T2 HW2 hb
  clear hza hzb hz x0 x1 x2 y0 y1 y2 z0 z1 z2 zf
  obtain ⟨hz, x0, x1, x2, y0, y1, y2, z0, z1, z2, zf⟩ := T3.out
  have hza : w.heap.size < w3.heap.size := by omega
  have hzb : w.heap.size + 1 < w3.heap.size := by omega
  go_wp2
  refine bodyPost_ret (v := .tuple #[.agg #[.bool rs, .slice zn kn cn, .slice zd kd cd], .int .i64 0]) (by simp [results, Tryz.results45, go_sem, z0, z1, z2]) rfl ⟨rs, zn, kn, cn, fn, zd, kd, cd, fd, rfl, below_store HW3.out, ⟨?_, ?_, HR.out.ln, HR.out.ld⟩⟩
  · exact T3.out.store HR.out.num
  · exact T3.out.store HR.out.den

set_option maxRecDepth 100000 in
set_option maxHeartbeats 4000000 in
theorem rMul_n {L : Nat} {w : World} {sa : Bool} {xa : Option Addr} {na ca : Nat} {fa : Nat → Int} {ya : Option Addr} {ma da : Nat} {ga : Nat → Int} {a : Rat} {sb : Bool} {xb : Option Addr} {nb cb : Nat} {fb : Nat → Int} {yb : Option Addr} {mb db : Nat} {gb : Nat → Int} {b : Rat} (ha : Rn L w sa xa na ca fa ya ma da ga a) (hb : Rn L w sb xb nb cb fb yb mb db gb b) (hL : L ≤ 1000) :
    Calls Tryz.prog 52 #[.agg #[.bool sa, .slice xa na ca, .slice ya ma da], .agg #[.bool sb, .slice xb nb cb, .slice yb mb db]] w fun e w' => RatTup (2 * L + 1) w w' e (a * b) := by
  have HA0 := hid ha; have HB0 := hid hb
  clear ha hb
  go_enter Tryz.func52, Tryz.ntmps52
  go_wp2_with fail
  refine (rForm_n (((HA0.out.alloc _).alloc _).alloc _) (by omega)).mono ?_
  rintro e w1 ⟨rfl, hbel⟩
  obtain ⟨⟨hz, x0, x1, x2, y0, y1, y2, z0, z1, z2, zf⟩, hw⟩ := three_new hbel
  have T1 : Hid (Three w.heap.size w1 _ _ _ _ _ _ _ _ _) := ⟨hz, x0, x1, x2, y0, y1, y2, z0, z1, z2, zf⟩
  have HW1 := hid hw; have HA1 := hid (HA0.out.below hw); have HB1 := hid (HB0.out.below hw)
  clear hbel hw HA0 HB0
  go_wp2_with fail
  refine (rForm_n HB1.out (by omega)).mono ?_
  rintro e w2 ⟨rfl, hb⟩
  have HA2 := hid (HA1.out.below hb); have HB2 := hid (HB1.out.below hb); have T2 := hid (T1.out.below hb); have HW2 := hid (HW1.out.trans (hb.mono HW1.out.size))
  clear HA1 HB1 T1 HW1 hb
  clear hz x0 x1 x2 y0 y1 y2 z0 z1 z2 zf
  obtain ⟨hz, x0, x1, x2, y0, y1, y2, z0, z1, z2, zf⟩ := T2.out
  have hza : w.heap.size < w2.heap.size := by omega
  have hzb : w.heap.size + 1 < w2.heap.size := by omega
  go_wp2_with fail
  refine (ratmul_c HA2.out HB2.out hL).mono ?_
  rintro e w3 ⟨rs, zn, kn, cn, fn, zd, kd, cd, fd, rfl, hb, hr⟩
  have HR := hid hr
  clear hr
  have T3 := hid (T2.out.below hb); have HW3 := hid (HW2.out.trans (hb.mono HW2.out.size))
  clear T2 HW2 hb
  clear hza hzb hz x0 x1 x2 y0 y1 y2 z0 z1 z2 zf
  obtain ⟨hz, x0, x1, x2, y0, y1, y2, z0, z1, z2, zf⟩ := T3.out
  have hza : w.heap.size < w3.heap.size := by omega
  have hzb : w.heap.size + 1 < w3.heap.size := by omega
  go_wp2
  refine bodyPost_ret (v := .tuple #[.agg #[.bool rs, .slice zn kn cn, .slice zd kd cd], .int .i64 0]) (by simp [results, Tryz.results52, go_sem, z0, z1, z2]) rfl ⟨rs, zn, kn, cn, fn, zd, kd, cd, fd, rfl, below_store HW3.out, ⟨?_, ?_, HR.out.ln, HR.out.ld⟩⟩
  · exact T3.out.store HR.out.num
  · exact T3.out.store HR.out.den

theorem Rn.negate {L w s x n c f y m d g q} {r : Bool} (h : Rn L w s x n c f y m d g q) (hr : r = (!s && decide (0 < n))) : Rn L w r x n c f y m d g (-q) := by
  refine ⟨?_, h.den, h.ln, h.ld⟩
  have h1 := h.num.mag.resign (s := !s) hr
  have h2 := h.num.sgn
  show Wn w r x n c f (-q.num)
  have : -q.num = sg (!s) q.num.natAbs := by
    generalize q.num.natAbs = A at h2
    rw [h2]
    cases s
    · rfl
    · show - -(A : Int) = A; omega
  rw [this]
  exact h1
theorem Rn.invert {L w s x n c f y m d g q} {r : Bool} (h : Rn L w s x n c f y m d g q) (h0 : 0 < n) (hr : r = (s && decide (0 < m))) : Rn L w r y m d g x n c f q⁻¹ := by
  have h2 := h.num.sgn
  have hm : 0 < m := h.den.pos (by have := q.den_pos; omega)
  have hq : 0 < q.num.natAbs := by
    have h3 := vf_pos h.num.lm h.num.fm h0
    have h4 := h.num.mag.nv
    omega
  obtain ⟨e1, e2⟩ := rinv h2 hq
  refine ⟨?_, ?_, h.ld, h.ln⟩
  · rw [e1]; exact h.den.resign hr
  · rw [e2]; exact h.num.mag

set_option maxRecDepth 100000 in
set_option maxHeartbeats 4000000 in
theorem rSub_n {L : Nat} {w : World} {sa : Bool} {xa : Option Addr} {na ca : Nat} {fa : Nat → Int} {ya : Option Addr} {ma da : Nat} {ga : Nat → Int} {a : Rat} {sb : Bool} {xb : Option Addr} {nb cb : Nat} {fb : Nat → Int} {yb : Option Addr} {mb db : Nat} {gb : Nat → Int} {b : Rat} (ha : Rn L w sa xa na ca fa ya ma da ga a) (hb : Rn L w sb xb nb cb fb yb mb db gb b) (hL : L ≤ 1000) :
    Calls Tryz.prog 51 #[.agg #[.bool sa, .slice xa na ca, .slice ya ma da], .agg #[.bool sb, .slice xb nb cb, .slice yb mb db]] w fun e w' => RatTup (2 * L + 1) w w' e (a - b) := by
  have HA0 := hid ha; have HB0 := hid hb
  clear ha hb
  go_enter Tryz.func51, Tryz.ntmps51
  go_wp2_with fail
  refine (rForm_n (((HA0.out.alloc _).alloc _).alloc _) (by omega)).mono ?_
  rintro e w1 ⟨rfl, hbel⟩
  obtain ⟨⟨hz, x0, x1, x2, y0, y1, y2, z0, z1, z2, zf⟩, hw⟩ := three_new hbel
  have T1 : Hid (Three w.heap.size w1 _ _ _ _ _ _ _ _ _) := ⟨hz, x0, x1, x2, y0, y1, y2, z0, z1, z2, zf⟩
  have HW1 := hid hw; have HA1 := hid (HA0.out.below hw); have HB1 := hid (HB0.out.below hw)
  clear hbel hw HA0 HB0
  go_wp2_with fail
  refine (rForm_n HB1.out (by omega)).mono ?_
  rintro e w2 ⟨rfl, hb⟩
  have HA2 := hid (HA1.out.below hb); have HB2 := hid (HB1.out.below hb); have T2 := hid (T1.out.below hb); have HW2 := hid (HW1.out.trans (hb.mono HW1.out.size))
  clear HA1 HB1 T1 HW1 hb
  clear hz x0 x1 x2 y0 y1 y2 z0 z1 z2 zf
  obtain ⟨hz, x0, x1, x2, y0, y1, y2, z0, z1, z2, zf⟩ := T2.out
  have hza : w.heap.size < w2.heap.size := by omega
  have hzb : w.heap.size + 1 < w2.heap.size := by omega
  have C3 : Hid (∀ (W : World), Below w2.heap.size w2 W → Calls Tryz.prog 89 #[.bool !sb, .slice xb nb cb, .slice yb mb db] W fun e w' => ∃ r, e = .returned (.agg #[.bool r, .slice xb nb cb, .slice yb mb db]) ∧ Below W.heap.size W w' ∧ Hid (Rn L w' r xb nb cb fb yb mb db gb (-b))) := fun W hW => (rsigned_c _ xb yb nb cb mb db W (by have := HB2.out.num.cap; have := HB2.out.den.cap; omega)).mono (fun e w' ⟨r, h1, h2, h3⟩ => ⟨r, h1, h3, ((HB2.out.below hW).below h3).negate h2.out⟩)
  have C4 : Hid (∀ (W : World) (r : Bool), Below w2.heap.size w2 W → Rn L W r xb nb cb fb yb mb db gb (-b) → Calls Tryz.prog 90 #[.agg #[.bool sa, .slice xa na ca, .slice ya ma da], .agg #[.bool r, .slice xb nb cb, .slice yb mb db]] W fun e w' => ∃ s x n c f y m d g, e = .returned (.agg #[.bool s, .slice x n c, .slice y m d]) ∧ Below W.heap.size W w' ∧ Hid (Rn (2 * L + 1) w' s x n c f y m d g (a - b))) := fun W r hW hr => (ratadd_c (HA2.out.below hW) hr hL).mono (fun e w' ⟨s, x, n, c, f, y, m, d, g, h1, h2, h3⟩ => ⟨s, x, n, c, f, y, m, d, g, h1, h2, by have h4 := h3; rw [← Rat.sub_eq_add_neg] at h4; exact h4⟩)
  go_wp2_with fail
  go_region_held3 (fun w' => w'.cell? ⟨w.heap.size, 0, none⟩ = some (.bool sa) ∧ w'.cell? ⟨w.heap.size, 1, none⟩ = some (.slice xa na ca) ∧ w'.cell? ⟨w.heap.size, 2, none⟩ = some (.slice ya ma da) ∧ w'.cell? ⟨w.heap.size + 1, 0, none⟩ = some (.bool sb) ∧ w'.cell? ⟨w.heap.size + 1, 1, none⟩ = some (.slice xb nb cb) ∧ w'.cell? ⟨w.heap.size + 1, 2, none⟩ = some (.slice yb mb db) ∧ (w'.cell? ⟨w.heap.size + 1 + 1, 0, none⟩).isSome = true ∧ (w'.cell? ⟨w.heap.size + 1 + 1, 1, none⟩).isSome = true ∧ (w'.cell? ⟨w.heap.size + 1 + 1, 2, none⟩).isSome = true ∧ w'.frozen? ⟨w.heap.size + 1 + 1, 0, none⟩ = false ∧ w'.frozen? ⟨w.heap.size + 1 + 1, 1, none⟩ = false ∧ w'.frozen? ⟨w.heap.size + 1 + 1, 2, none⟩ = false)
    (refine ⟨?_, ?_, ?_, ?_, ?_, ?_, ?_, ?_, ?_, ?_, ?_, ?_⟩ <;> repeat (with_reducible first | assumption | exact zf _ | exact uf _ | exact vf' _ | exact kI0 z0 | exact kI0 z1 | exact kI0 z2 | exact kI0 u0 | exact kI0 u1 | exact kI0 u2 | exact kI0 v0 | exact kI0 v1 | exact kI0 v2 | refine kCd ?_ | refine kId ?_ | refine kFd ?_ | refine kCs (by simp only [ne_eq]; omega) ?_ | refine kIs ?_ | refine kFs ?_ | refine kCb (by assumption) ?_ | refine kIb (by assumption) ?_))
    (first
      | (go_at_call 89; with_reducible refine (C3.out _ (by repeat (with_reducible first | assumption | exact Below.refl _ _ | refine Below.drew ?_ | refine kBa ?_ | refine kBb (by assumption) ?_))).mono ?_; rintro e w3 ⟨r3, rfl, hb3, HR3⟩; have TU : Three w.heap.size w3 (.bool sa) (.slice xa na ca) (.slice ya ma da) (.bool sb) (.slice xb nb cb) (.slice yb mb db) (.bool false) (.slice none 0 0) (.slice none 0 0) := (by repeat (with_reducible first | exact T2.out | exact TU | refine kTd ?_ | refine kTb (by assumption) ?_)); obtain ⟨_, _, _, _, _, _, _, u0, u1, u2, uf⟩ := id TU)
      | (go_at_call 90; with_reducible refine (C4.out _ r3 (by repeat (with_reducible first | assumption | exact Below.refl _ _ | refine Below.drew ?_ | refine kBa ?_ | refine kBb (by assumption) ?_)) HR3.out).mono ?_; rintro e w4 ⟨rs, zn, kn, cn, fn, zd, kd, cd, fd, rfl, hb4, HR⟩; have TV : Three w.heap.size w4 (.bool sa) (.slice xa na ca) (.slice ya ma da) (.bool sb) (.slice xb nb cb) (.slice yb mb db) (.bool false) (.slice none 0 0) (.slice none 0 0) := (by repeat (with_reducible first | exact T2.out | exact TU | refine kTd ?_ | refine kTb (by assumption) ?_)); obtain ⟨_, _, _, _, _, _, _, v0, v1, v2, vf'⟩ := id TV))
  have hb : Below w2.heap.size w2 w4 := (by repeat (with_reducible first | assumption | exact Below.refl _ _ | refine Below.drew ?_ | refine kBa ?_ | refine kBb (by assumption) ?_))
  have HW4 := hid (HW2.out.trans (hb.mono HW2.out.size))
  go_wp2
  refine bodyPost_ret (v := .tuple #[.agg #[.bool rs, .slice zn kn cn, .slice zd kd cd], .int .i64 0]) (by simp [results, Tryz.results51, go_sem, v0, v1, v2]) rfl ⟨rs, zn, kn, cn, fn, zd, kd, cd, fd, rfl, below_store HW4.out, ⟨?_, ?_, HR.out.ln, HR.out.ld⟩⟩
  · exact TV.store HR.out.num
  · exact TV.store HR.out.den

set_option maxRecDepth 100000 in
set_option maxHeartbeats 4000000 in
theorem rQuo_z {L : Nat} {w : World} {sa : Bool} {xa : Option Addr} {na ca : Nat} {fa : Nat → Int} {ya : Option Addr} {ma da : Nat} {ga : Nat → Int} {a : Rat} {sb : Bool} {xb : Option Addr} {nb cb : Nat} {fb : Nat → Int} {yb : Option Addr} {mb db : Nat} {gb : Nat → Int} {b : Rat} (ha : Rn L w sa xa na ca fa ya ma da ga a) (hb : Rn L w sb xb nb cb fb yb mb db gb b) (hL : L ≤ 1000) (h0 : nb = 0) :
    Calls Tryz.prog 53 #[.agg #[.bool sa, .slice xa na ca, .slice ya ma da], .agg #[.bool sb, .slice xb nb cb, .slice yb mb db]] w fun e w' => ∃ s x n c y m d, e = .returned (.tuple #[.agg #[.bool s, .slice x n c, .slice y m d], .int .i64 4]) ∧ Below w.heap.size w w' := by
  subst h0
  have HA0 := hid ha; have HB0 := hid hb
  clear ha hb
  go_enter Tryz.func53, Tryz.ntmps53
  go_wp2_with fail
  refine (rForm_n (((HA0.out.alloc _).alloc _).alloc _) (by omega)).mono ?_
  rintro e w1 ⟨rfl, hbel⟩
  obtain ⟨⟨hz, x0, x1, x2, y0, y1, y2, z0, z1, z2, zf⟩, hw⟩ := three_new hbel
  have T1 : Hid (Three w.heap.size w1 _ _ _ _ _ _ _ _ _) := ⟨hz, x0, x1, x2, y0, y1, y2, z0, z1, z2, zf⟩
  have HW1 := hid hw; have HA1 := hid (HA0.out.below hw); have HB1 := hid (HB0.out.below hw)
  clear hbel hw HA0 HB0
  go_wp2_with fail
  refine (rForm_n HB1.out (by omega)).mono ?_
  rintro e w2 ⟨rfl, hb⟩
  have HA2 := hid (HA1.out.below hb); have HB2 := hid (HB1.out.below hb); have T2 := hid (T1.out.below hb); have HW2 := hid (HW1.out.trans (hb.mono HW1.out.size))
  clear HA1 HB1 T1 HW1 hb
  clear hz x0 x1 x2 y0 y1 y2 z0 z1 z2 zf
  obtain ⟨hz, x0, x1, x2, y0, y1, y2, z0, z1, z2, zf⟩ := T2.out
  have hza : w.heap.size < w2.heap.size := by omega
  have hzb : w.heap.size + 1 < w2.heap.size := by omega
  go_wp2
  exact bodyPost_ret (v := .tuple #[.agg #[.bool false, .slice none 0 0, .slice none 0 0], .int .i64 4]) (by simp [results, Tryz.results53, go_sem, z0, z1, z2]) rfl ⟨false, none, 0, 0, none, 0, 0, rfl, below_store HW2.out⟩

set_option maxRecDepth 100000 in
set_option maxHeartbeats 4000000 in
theorem rQuo_n {L : Nat} {w : World} {sa : Bool} {xa : Option Addr} {na ca : Nat} {fa : Nat → Int} {ya : Option Addr} {ma da : Nat} {ga : Nat → Int} {a : Rat} {sb : Bool} {xb : Option Addr} {nb cb : Nat} {fb : Nat → Int} {yb : Option Addr} {mb db : Nat} {gb : Nat → Int} {b : Rat} (ha : Rn L w sa xa na ca fa ya ma da ga a) (hb : Rn L w sb xb nb cb fb yb mb db gb b) (hL : L ≤ 1000) (h0 : 0 < nb) :
    Calls Tryz.prog 53 #[.agg #[.bool sa, .slice xa na ca, .slice ya ma da], .agg #[.bool sb, .slice xb nb cb, .slice yb mb db]] w fun e w' => RatTup (2 * L + 1) w w' e (a / b) := by
  have HA0 := hid ha; have HB0 := hid hb
  clear ha hb
  go_enter Tryz.func53, Tryz.ntmps53
  go_wp2_with fail
  refine (rForm_n (((HA0.out.alloc _).alloc _).alloc _) (by omega)).mono ?_
  rintro e w1 ⟨rfl, hbel⟩
  obtain ⟨⟨hz, x0, x1, x2, y0, y1, y2, z0, z1, z2, zf⟩, hw⟩ := three_new hbel
  have T1 : Hid (Three w.heap.size w1 _ _ _ _ _ _ _ _ _) := ⟨hz, x0, x1, x2, y0, y1, y2, z0, z1, z2, zf⟩
  have HW1 := hid hw; have HA1 := hid (HA0.out.below hw); have HB1 := hid (HB0.out.below hw)
  clear hbel hw HA0 HB0
  go_wp2_with fail
  refine (rForm_n HB1.out (by omega)).mono ?_
  rintro e w2 ⟨rfl, hb⟩
  have HA2 := hid (HA1.out.below hb); have HB2 := hid (HB1.out.below hb); have T2 := hid (T1.out.below hb); have HW2 := hid (HW1.out.trans (hb.mono HW1.out.size))
  clear HA1 HB1 T1 HW1 hb
  clear hz x0 x1 x2 y0 y1 y2 z0 z1 z2 zf
  obtain ⟨hz, x0, x1, x2, y0, y1, y2, z0, z1, z2, zf⟩ := T2.out
  have hza : w.heap.size < w2.heap.size := by omega
  have hzb : w.heap.size + 1 < w2.heap.size := by omega
  have hn0 : ((nb : Int) == 0) = false := by simp; omega
  have H0 := hid h0
  clear h0
  have C3 : Hid (∀ (W : World), Below w2.heap.size w2 W → Calls Tryz.prog 89 #[.bool sb, .slice yb mb db, .slice xb nb cb] W fun e w' => ∃ r, e = .returned (.agg #[.bool r, .slice yb mb db, .slice xb nb cb]) ∧ Below W.heap.size W w' ∧ Hid (Rn L w' r yb mb db gb xb nb cb fb b⁻¹)) := fun W hW => (rsigned_c _ yb xb mb db nb cb W (by have := HB2.out.num.cap; have := HB2.out.den.cap; omega)).mono (fun e w' ⟨r, h1, h2, h3⟩ => ⟨r, h1, h3, ((HB2.out.below hW).below h3).invert H0.out h2.out⟩)
  have C4 : Hid (∀ (W : World) (r : Bool), Below w2.heap.size w2 W → Rn L W r yb mb db gb xb nb cb fb b⁻¹ → Calls Tryz.prog 98 #[.agg #[.bool sa, .slice xa na ca, .slice ya ma da], .agg #[.bool r, .slice yb mb db, .slice xb nb cb]] W fun e w' => ∃ s x n c f y m d g, e = .returned (.agg #[.bool s, .slice x n c, .slice y m d]) ∧ Below W.heap.size W w' ∧ Hid (Rn (2 * L + 1) w' s x n c f y m d g (a / b))) := fun W r hW hr => (ratmul_c (HA2.out.below hW) hr hL).mono (fun e w' ⟨s, x, n, c, f, y, m, d, g, h1, h2, h3⟩ => ⟨s, x, n, c, f, y, m, d, g, h1, h2, by have h4 := h3; rw [← Rat.div_def] at h4; exact h4⟩)
  go_wp2_with fail
  go_region_held3 (fun w' => w'.cell? ⟨w.heap.size, 0, none⟩ = some (.bool sa) ∧ w'.cell? ⟨w.heap.size, 1, none⟩ = some (.slice xa na ca) ∧ w'.cell? ⟨w.heap.size, 2, none⟩ = some (.slice ya ma da) ∧ w'.cell? ⟨w.heap.size + 1, 0, none⟩ = some (.bool sb) ∧ w'.cell? ⟨w.heap.size + 1, 1, none⟩ = some (.slice xb nb cb) ∧ w'.cell? ⟨w.heap.size + 1, 2, none⟩ = some (.slice yb mb db) ∧ (w'.cell? ⟨w.heap.size + 1 + 1, 0, none⟩).isSome = true ∧ (w'.cell? ⟨w.heap.size + 1 + 1, 1, none⟩).isSome = true ∧ (w'.cell? ⟨w.heap.size + 1 + 1, 2, none⟩).isSome = true ∧ w'.frozen? ⟨w.heap.size + 1 + 1, 0, none⟩ = false ∧ w'.frozen? ⟨w.heap.size + 1 + 1, 1, none⟩ = false ∧ w'.frozen? ⟨w.heap.size + 1 + 1, 2, none⟩ = false)
    (refine ⟨?_, ?_, ?_, ?_, ?_, ?_, ?_, ?_, ?_, ?_, ?_, ?_⟩ <;> repeat (with_reducible first | assumption | exact zf _ | exact uf _ | exact vf' _ | exact kI0 z0 | exact kI0 z1 | exact kI0 z2 | exact kI0 u0 | exact kI0 u1 | exact kI0 u2 | exact kI0 v0 | exact kI0 v1 | exact kI0 v2 | refine kCd ?_ | refine kId ?_ | refine kFd ?_ | refine kCs (by simp only [ne_eq]; omega) ?_ | refine kIs ?_ | refine kFs ?_ | refine kCb (by assumption) ?_ | refine kIb (by assumption) ?_))
    (first
      | (go_at_call 89; with_reducible refine (C3.out _ (by repeat (with_reducible first | assumption | exact Below.refl _ _ | refine Below.drew ?_ | refine kBa ?_ | refine kBb (by assumption) ?_))).mono ?_; rintro e w3 ⟨r3, rfl, hb3, HR3⟩; have TU : Three w.heap.size w3 (.bool sa) (.slice xa na ca) (.slice ya ma da) (.bool sb) (.slice xb nb cb) (.slice yb mb db) (.bool false) (.slice none 0 0) (.slice none 0 0) := (by repeat (with_reducible first | exact T2.out | exact TU | refine kTd ?_ | refine kTb (by assumption) ?_)); obtain ⟨_, _, _, _, _, _, _, u0, u1, u2, uf⟩ := id TU)
      | (go_at_call 98; with_reducible refine (C4.out _ r3 (by repeat (with_reducible first | assumption | exact Below.refl _ _ | refine Below.drew ?_ | refine kBa ?_ | refine kBb (by assumption) ?_)) HR3.out).mono ?_; rintro e w4 ⟨rs, zn, kn, cn, fn, zd, kd, cd, fd, rfl, hb4, HR⟩; have TV : Three w.heap.size w4 (.bool sa) (.slice xa na ca) (.slice ya ma da) (.bool sb) (.slice xb nb cb) (.slice yb mb db) (.bool false) (.slice none 0 0) (.slice none 0 0) := (by repeat (with_reducible first | exact T2.out | exact TU | refine kTd ?_ | refine kTb (by assumption) ?_)); obtain ⟨_, _, _, _, _, _, _, v0, v1, v2, vf'⟩ := id TV))
  have hb : Below w2.heap.size w2 w4 := (by repeat (with_reducible first | assumption | exact Below.refl _ _ | refine Below.drew ?_ | refine kBa ?_ | refine kBb (by assumption) ?_))
  have HW4 := hid (HW2.out.trans (hb.mono HW2.out.size))
  go_wp2
  refine bodyPost_ret (v := .tuple #[.agg #[.bool rs, .slice zn kn cn, .slice zd kd cd], .int .i64 0]) (by simp [results, Tryz.results53, go_sem, v0, v1, v2]) rfl ⟨rs, zn, kn, cn, fn, zd, kd, cd, fd, rfl, below_store HW4.out, ⟨?_, ?_, HR.out.ln, HR.out.ld⟩⟩
  · exact TV.store HR.out.num
  · exact TV.store HR.out.den
end Go.Proofs.YtclopblgdiahiaaGreatDoor
namespace Go.Proofs.YtclopblgdiahiaaGreatDoor
open Go.ChangeShapes Go.WideShapes Go.ChangeAt Go.RowKit

theorem Tryz.readR : Tryz.prog.readableRec 32 = true := by kernel_rfl
theorem Tryz.sizeR : 32 < Tryz.prog.types.size := of_decide_eq_true (by kernel_rfl)
theorem Tryz.cellsR : Tryz.prog.cellsOf 32 = 3 := by kernel_rfl

/-- A struct of three fields: each is read by itself. -/
theorem fields3 {H : Type} {enc : TypeId × Value → H} {P : Program} {w : World} {base : Nat} {spare : Nat → Bool} {held : Bool} {t : TypeId} {f0 f1 f2 : Field} {fuel : Nat} {cs : List Value} {x : DataW H × List MemPlace} (ht : P.underlying t = some (.struct #[f0, f1, f2])) (h : DataW.trod enc P w base spare held fuel t cs = some x) :
    ∃ y0 y1 y2 k, DataW.trod enc P w base spare held k f0.type ((cs.drop f0.offset).take (P.cellsOf f0.type)) = some y0 ∧ DataW.trod enc P w base spare held k f1.type ((cs.drop f1.offset).take (P.cellsOf f1.type)) = some y1 ∧ DataW.trod enc P w base spare held k f2.type ((cs.drop f2.offset).take (P.cellsOf f2.type)) = some y2 := by
  obtain ⟨ys, k, _, rfl, _, hlen, hf⟩ := DataW.trod_struct ht h
  match ys, hlen with
  | [y0, y1, y2], _ => exact ⟨y0, y1, y2, k, by simpa using hf 0 f0 rfl, by simpa using hf 1 f1 rfl, by simpa using hf 2 f2 rfl⟩
set_option maxRecDepth 100000 in
/-- An argument that is a rational number. -/
theorem viewR {H : Type} {enc : TypeId × Value → H} {W : World} {base : Nat} {v : Value} {d : DataW H} {p : List MemPlace} (hok : Value.okWide Tryz.prog W .any base 32 v) (h : DataW.Trod enc Tryz.prog W 0 (fun _ => true) true 32 v d p) :
    ∃ s x n c f y m b g, v = .agg #[.bool s, .slice x n c, .slice y m b] ∧ Rw W x n c f y m b g := by
  obtain ⟨cs, rfl, hsz⟩ := okWide_struct Tryz.underlying32 hok
  rw [Tryz.cellsR] at hsz
  obtain ⟨fuel, hf⟩ := h
  obtain ⟨y0, y1, y2, k, h0, h1, h2⟩ := fields3 Tryz.underlying32 hf
  obtain ⟨l⟩ := cs
  match l, hsz with
  | [c0, c1, c2], _ =>
    have h0' : DataW.trod enc Tryz.prog W 0 (fun _ => true) true k 4 [c0] = some y0 := h0
    have h1' : DataW.trod enc Tryz.prog W 0 (fun _ => true) true k 22 [c1] = some y1 := h1
    have h2' : DataW.trod enc Tryz.prog W 0 (fun _ => true) true k 22 [c2] = some y2 := h2
    obtain ⟨s, hs, _⟩ := DataW.trod_bool Tryz.underlying4 h0'
    obtain ⟨ao, n, cap, f, rfl, hr, hlm, hnil, hc⟩ := viewL h1'
    obtain ⟨bo, m, cap', g, rfl, hr', hlm', hnil', hc'⟩ := viewL h2'
    simp at hs
    subst hs
    exact ⟨s, ao, n, cap, f, bo, m, cap', g, rfl, hr, hlm, hc, hnil, hr', hlm', hc', hnil'⟩
end Go.Proofs.YtclopblgdiahiaaGreatDoor
namespace Go.Proofs.YtclopblgdiahiaaGreatDoor
open Go.ChangeShapes Go.WideShapes Go.ChangeAt Go.RowKit

theorem Tryz.readE : Tryz.prog.readableRec 39 = true := by kernel_rfl
theorem Tryz.sizeE : 39 < Tryz.prog.types.size := of_decide_eq_true (by kernel_rfl)
theorem Tryz.cellsE : Tryz.prog.cellsOf 39 = 4 := by kernel_rfl

set_option maxRecDepth 100000 in
/-- Three cells that are a rational number. -/
theorem viewRc {H : Type} {enc : TypeId × Value → H} {W : World} {k : Nat} {c0 c1 c2 : Value} {z : DataW H × List MemPlace} (hf : DataW.trod enc Tryz.prog W 0 (fun _ => true) true k 32 [c0, c1, c2] = some z) :
    ∃ s x n c f y m b g, c0 = .bool s ∧ c1 = .slice x n c ∧ c2 = .slice y m b ∧ Rw W x n c f y m b g := by
  obtain ⟨y0, y1, y2, k, h0, h1, h2⟩ := fields3 Tryz.underlying32 hf
  have h0' : DataW.trod enc Tryz.prog W 0 (fun _ => true) true k 4 [c0] = some y0 := h0
  have h1' : DataW.trod enc Tryz.prog W 0 (fun _ => true) true k 22 [c1] = some y1 := h1
  have h2' : DataW.trod enc Tryz.prog W 0 (fun _ => true) true k 22 [c2] = some y2 := h2
  obtain ⟨s, hs, _⟩ := DataW.trod_bool Tryz.underlying4 h0'
  obtain ⟨ao, n, cap, f, rfl, hr, hlm, hnil, hc⟩ := viewL h1'
  obtain ⟨bo, m, cap', g, rfl, hr', hlm', hnil', hc'⟩ := viewL h2'
  simp at hs
  exact ⟨s, ao, n, cap, f, bo, m, cap', g, hs, rfl, rfl, hr, hlm, hc, hnil, hr', hlm', hc', hnil'⟩
set_option maxRecDepth 100000 in
/-- An argument that is a bound. -/
theorem viewE {H : Type} {enc : TypeId × Value → H} {W : World} {base : Nat} {v : Value} {d : DataW H} {p : List MemPlace} (hok : Value.okWide Tryz.prog W .any base 39 v) (h : DataW.Trod enc Tryz.prog W 0 (fun _ => true) true 39 v d p) :
    ∃ i s x n c f y m b g, v = .agg #[.int .i64 i, .bool s, .slice x n c, .slice y m b] ∧ Rw W x n c f y m b g := by
  obtain ⟨cs, rfl, hsz⟩ := okWide_struct Tryz.underlying39 hok
  rw [Tryz.cellsE] at hsz
  obtain ⟨fuel, hf⟩ := h
  obtain ⟨y0, y1, k, hx, hl, h0, h1⟩ := trod_struct2 Tryz.underlying39 hf
  obtain ⟨l⟩ := cs
  match l, hsz with
  | [c0, c1, c2, c3], _ =>
    have h0' : DataW.trod enc Tryz.prog W 0 (fun _ => true) true k 3 [c0] = some y0 := h0
    have h1' : DataW.trod enc Tryz.prog W 0 (fun _ => true) true k 32 [c1, c2, c3] = some y1 := h1
    obtain ⟨i, hs, _⟩ := DataW.trod_int Tryz.underlying3 h0'
    obtain ⟨s, x, n, c, f, y, m, b, g, rfl, rfl, rfl, hr⟩ := viewRc h1'
    simp at hs
    subst hs
    exact ⟨i, s, x, n, c, f, y, m, b, g, rfl, hr⟩
end Go.Proofs.YtclopblgdiahiaaGreatDoor
namespace Go.Proofs.YtclopblgdiahiaaGreatDoor
open Go.RowKit

theorem mul_digit {Q Q' : Nat → Int} {i j : Nat} {C x y t : Int} {S H : Int} (HV : vd (sh Q i) j + C * pd j = S + x * H) (hk : ∀ k, k < j → Q' (i + k) = Q (i + k)) (hq : Q' (i + j) = t % 4294967296) (ht : t = C + (Q (i + j) + x * y)) :
    vd (sh Q' i) (j + 1) + (t / 4294967296) * pd (j + 1) = (S + Q (i + j) * pd j) + x * (H + y * pd j) := by
  rw [vd_succ, vd_congr (f := sh Q' i) (g := sh Q i) (n := j) (fun k h => hk k h), pd_succ]
  have e1 : sh Q' i j = t % 4294967296 := hq
  rw [e1]
  have e2 : t % 4294967296 = t - 4294967296 * (t / 4294967296) := by omega
  rw [e2, ht]
  generalize (C + (Q (i + j) + x * y)) / 4294967296 = u
  grind
theorem mul_row {Q0 Q Q' : Nat → Int} {i m : Nat} {C x F H : Int} (h0 : vd Q0 (i + m) = F * H) (HV : vd (sh Q i) m + C * pd m = vd (sh Q0 i) m + x * H) (he : ∀ k, k < i → Q k = Q0 k) (hk : ∀ k, k < i + m → Q' k = Q k) (hc : Q' (i + m) = C) :
    vd Q' (i + m + 1) = (F + x * pd i) * H := by
  rw [vd_succ, hc, vd_congr (f := Q') (g := Q) (n := i + m) hk, vd_split, vd_congr (f := Q) (g := Q0) (n := i) he, pd_add]
  rw [vd_split] at h0
  grind

end Go.Proofs.YtclopblgdiahiaaGreatDoor
namespace Go.Proofs.YtclopblgdiahiaaGreatDoor
open Go.RowKit

/-- Digits in form that can be read, with their number. -/
structure Dn (w : World) (x : Option Addr) (n : Nat) (d : Nat → Int) (V : Nat) : Prop where
  rd : Rd .u64 w x n d
  dg : Dg d n
  fm : Fm d n
  val : vd d n = V
theorem Dn.below {w w' x n d V} (h : Dn w x n d V) (hb : Below w.heap.size w w') : Dn w' x n d V := ⟨h.rd.below hb (Nat.le_refl _), h.dg, h.fm, h.val⟩
theorem Dn.alloc {w x n d V} (h : Dn w x n d V) (o : Obj) : Dn (w.alloc o) x n d V := ⟨h.rd.below ((Below.refl _ _).alloc (Nat.le_refl _) o) (Nat.le_refl _), h.dg, h.fm, h.val⟩
theorem Dn.next {w w' x n d V} {o : Obj} (h : Dn w x n d V) (hb : Below (w.alloc o).heap.size (w.alloc o) w') : Dn w' x n d V := (h.alloc o).below hb
theorem Dn.drew {w x n d V} (h : Dn w x n d V) : Dn w.drew x n d V := ⟨h.rd, h.dg, h.fm, h.val⟩
theorem Dn.pos {w x n d V} (h : Dn w x n d V) (hV : 0 < V) : 0 < n := by
  rcases Nat.eq_zero_or_pos n with h0 | h0
  · subst h0; have : (0 : Int) = V := h.val; omega
  · exact h0
theorem Dn.zero {w x d V} (h : Dn w x 0 d V) : V = 0 := by have : (0 : Int) = V := h.val; omega
theorem Dn.pos' {w x n d V} (h : Dn w x n d V) (hn : 0 < n) : 0 < V := by
  have h1 := vd_form_ge h.dg h.fm hn
  have h2 := pd_pos (n - 1)
  rw [h.val] at h1
  omega
theorem dAdd_c {w x n c d A y m e g B} (ha : Dn w x n d A) (hb : Dn w y m g B) (hn : n ≤ 8192) (hm : m ≤ 8192) :
    Calls Tryz.prog 173 #[.slice x n c, .slice y m e] w fun e w' => ∃ z k c' q, e = .returned (.slice z k c') ∧ Below w.heap.size w w' ∧ Hid (k ≤ n + m + 1 ∧ Dn w' z k q (A + B)) :=
  (radd_c x y n m c e d g w (by omega) (by omega) ha.rd hb.rd ha.dg hb.dg).mono (fun _ _ ⟨z, k, c', q, h1, h2, h3, h4, h5, h6, h7⟩ => ⟨z, k, c', q, h1, h2, h4, h3, h5, h6, by rw [h7, ha.val, hb.val]; omega⟩)
theorem dSub_c {w x n c d A y m e g B} (ha : Dn w x n d A) (hb : Dn w y m g B) (hn : n ≤ 8192) (hm : m ≤ 8192) (hle : B ≤ A) :
    Calls Tryz.prog 107 #[.slice x n c, .slice y m e] w fun e w' => ∃ z k c' q, e = .returned (.slice z k c') ∧ Below w.heap.size w w' ∧ Hid (k ≤ n ∧ Dn w' z k q (A - B)) :=
  (rsub_c x y n m c e d g w (by omega) (by omega) (vd_len hb.dg ha.dg hb.fm (by rw [ha.val, hb.val]; omega)) ha.rd hb.rd ha.dg hb.dg (by rw [ha.val, hb.val]; omega)).mono (fun _ _ ⟨z, k, c', q, h1, h2, h3, h4, h5, h6, h7⟩ => ⟨z, k, c', q, h1, h2, h4, h3, h5, h6, by rw [h7, ha.val, hb.val]; omega⟩)
end Go.Proofs.YtclopblgdiahiaaGreatDoor
namespace Go.Proofs.YtclopblgdiahiaaGreatDoor
open Go.RowKit

theorem drewN_bel {w w' : World} {q : Nat} (h : w' = w.drewN q) : Below w.heap.size w w' := by rw [h]; exact below_drewN (Below.refl _ _) _
/-- One digit otherwise. -/
theorem vd_upd {Q : Nat → Int} {p N : Nat} {t : Int} (hp : p < N) : vd (upd Q p t) N = vd Q N + (t - Q p) * pd p := by
  obtain ⟨d, rfl⟩ : ∃ d, N = p + 1 + d := ⟨N - (p + 1), by omega⟩
  have e1 : vd (upd Q p t) p = vd Q p := vd_congr (fun j hj => upd_other _ _ _ _ (by omega))
  have e2 : vd (sh (upd Q p t) (p + 1)) d = vd (sh Q (p + 1)) d := vd_congr (fun j hj => upd_other _ _ _ _ (by omega))
  rw [vd_split (upd Q p t) (p + 1) d, vd_split Q (p + 1) d, vd_succ, vd_succ, e1, e2, upd_same]
  grind
theorem p2_pos (s : Nat) : (0 : Int) < 2 ^ s := Int.pow_pos (by decide)
theorem p2_32 {s : Nat} (h : s ≤ 32) : (2 : Int) ^ s * 2 ^ (32 - s) = 4294967296 := by rw [← Int.pow_add, show s + (32 - s) = 32 by omega]; rfl
theorem p2_le {s : Nat} (h : s ≤ 31) : (2 : Int) ^ s ≤ 2147483648 := by
  have : (2 : Int) ^ s * 2 ^ (31 - s) = 2147483648 := by rw [← Int.pow_add, show s + (31 - s) = 31 by omega]; rfl
  have q0 : (0 : Int) < 2 ^ (31 - s) := p2_pos _
  have := Int.mul_le_mul_of_nonneg_left (show (1 : Int) ≤ 2 ^ (31 - s) by omega) (Int.le_of_lt (p2_pos s))
  omega
theorem p2_succ (s : Nat) : (2 : Int) ^ (s + 1) = 2 * 2 ^ s := by rw [Int.pow_succ, Int.mul_comm]
/-- What is less than one and not below none, is none. -/
theorem none_of_lt {D p : Int} (h0 : 0 ≤ D * p) (h1 : D * p < p) (hp : 0 < p) : D = 0 := by
  rcases Int.lt_trichotomy D 0 with h | h | h
  · have := Int.mul_le_mul_of_nonneg_right (show D ≤ -1 by omega) (Int.le_of_lt hp); omega
  · exact h
  · have := Int.mul_le_mul_of_nonneg_right (show 1 ≤ D by omega) (Int.le_of_lt hp); omega
/-- There is room for the bit. -/
theorem bit_room {Q : Nat → Int} {n j s : Nat} {V : Int} (h : Dg Q n) (hj : j < n) (hs : s ≤ 31) (hv : vd Q n = V * (2 ^ (s + 1) * pd j)) : Q j + 2 ^ s < 4294967296 := by
  obtain ⟨d, rfl⟩ : ∃ d, n = j + 1 + d := ⟨n - (j + 1), by omega⟩
  have a0 := vd_nonneg (h.mono (m := j) (by omega))
  have a1 := vd_lt (h.mono (m := j) (by omega))
  have hp := pd_pos j
  obtain ⟨q0, q1⟩ := h j (by omega)
  rw [vd_split, vd_succ, pd_succ] at hv
  generalize vd (sh Q (j + 1)) d = T at hv
  have e : vd Q j = (V * 2 ^ (s + 1) - Q j - T * 4294967296) * pd j := by grind
  have z := none_of_lt (D := V * 2 ^ (s + 1) - Q j - T * 4294967296) (p := pd j) (by omega) (by omega) hp
  have m := p2_32 (s := s + 1) (by omega)
  have e3 : Q j = 2 ^ (s + 1) * (V - T * 2 ^ (32 - (s + 1))) := by grind
  have g0 := p2_pos (s + 1)
  have g1 := p2_succ s
  generalize (V - T * 2 ^ (32 - (s + 1))) = E at e3
  have : E < 2 ^ (32 - (s + 1)) := by
    apply Int.lt_of_not_ge; intro hge
    have := Int.mul_le_mul_of_nonneg_left hge (Int.le_of_lt g0)
    omega
  have := Int.mul_le_mul_of_nonneg_left (show E ≤ 2 ^ (32 - (s + 1)) - 1 by omega) (Int.le_of_lt g0)
  rw [Int.mul_sub, Int.mul_one, m] at this
  have := p2_pos s
  omega
/-- The bit of a digit is the number's. -/
theorem bit_num {f : Nat → Int} {n j s : Nat} (h : Dg f n) (hj : j < n) (hs : s ≤ 31) : f j / 2 ^ s % 2 = vd f n / 2 ^ (32 * j + s) % 2 := by
  obtain ⟨d, rfl⟩ : ∃ d, n = j + 1 + d := ⟨n - (j + 1), by omega⟩
  have a0 := vd_nonneg (h.mono (m := j) (by omega))
  have a1 := vd_lt (h.mono (m := j) (by omega))
  have hp := pd_pos j
  rw [vd_split, vd_succ, pd_succ, Int.pow_add, ← pd_pow]
  generalize vd (sh f (j + 1)) d = T
  have e : vd f j + f j * pd j + T * (4294967296 * pd j) = vd f j + (f j + T * 4294967296) * pd j := by grind
  rw [e, ← Int.ediv_ediv_of_nonneg (Int.le_of_lt hp), Int.add_mul_ediv_right _ _ (by omega), Int.ediv_eq_zero_of_lt a0 a1, Int.zero_add]
  have m := p2_32 (s := s) (by omega)
  have e2 : f j + T * 4294967296 = f j + (T * 2 ^ (32 - s)) * 2 ^ s := by rw [← m]; grind
  have g := p2_pos s
  rw [e2, Int.add_mul_ediv_right _ _ (by omega)]
  have e3 : (2 : Int) ^ (32 - s) = 2 * 2 ^ (31 - s) := by rw [show 32 - s = (31 - s) + 1 by omega, p2_succ]
  rw [e3]
  generalize f j / 2 ^ s = u
  have e4 : T * (2 * 2 ^ (31 - s)) = 2 * (T * 2 ^ (31 - s)) := by grind
  rw [e4]; omega
/-- One bit more. -/
theorem bit_step {A M : Int} {k : Nat} (h : A / 2 ^ (k + 1) = M) : A / 2 ^ k = 2 * M + A / 2 ^ k % 2 := by
  have : A / 2 ^ (k + 1) = A / 2 ^ k / 2 := by rw [Int.pow_succ, Int.ediv_ediv_of_nonneg (Int.le_of_lt (p2_pos k))]
  omega
/-- The highest digit's bits are the number's. -/
theorem bits_top {f : Nat → Int} {n c : Nat} (h : Dg f (n + 1)) (hc : f n < 2 ^ c) : vd f (n + 1) < 2 ^ (32 * n + c) := by
  have a1 := vd_lt (h.mono (m := n) (by omega))
  have hp := pd_pos n
  rw [vd_succ, Int.pow_add, ← pd_pow]
  have := Int.mul_le_mul_of_nonneg_right (show f n + 1 ≤ 2 ^ c by omega) (Int.le_of_lt hp)
  rw [Int.add_mul, Int.one_mul] at this
  rw [Int.mul_comm (pd n)]
  omega
theorem bits_half {x t : Int} {c : Nat} (h1 : x * 2 ^ c ≤ t) (h2 : t < (x + 1) * 2 ^ c) : x / 2 * 2 ^ (c + 1) ≤ t ∧ t < (x / 2 + 1) * 2 ^ (c + 1) := by
  have g := p2_pos c
  rw [p2_succ]
  have k1 := Int.mul_le_mul_of_nonneg_right (show 2 * (x / 2) ≤ x by omega) (Int.le_of_lt g)
  have k2 := Int.mul_le_mul_of_nonneg_right (show x + 1 ≤ 2 * (x / 2) + 2 by omega) (Int.le_of_lt g)
  generalize (2 : Int) ^ c = P at *
  generalize x / 2 = y at *
  constructor
  · have : y * (2 * P) = 2 * y * P := by grind
    omega
  · have : (y + 1) * (2 * P) = (2 * y + 2) * P := by grind
    omega
theorem bits_few {x t : Int} {c : Nat} (h1 : x * 2 ^ c ≤ t) (hx : 0 < x) (ht : t < 4294967296) : c < 32 := by
  apply Nat.lt_of_not_le; intro h
  obtain ⟨d, rfl⟩ := Nat.exists_eq_add_of_le h
  have g := p2_pos d
  have g2 := p2_pos (32 + d)
  have k1 := Int.mul_le_mul_of_nonneg_right (show 1 ≤ x by omega) (Int.le_of_lt g2)
  have : (2 : Int) ^ (32 + d) = 4294967296 * 2 ^ d := by rw [Int.pow_add]; rfl
  have k2 := Int.mul_le_mul_of_nonneg_left (show (1 : Int) ≤ 2 ^ d by omega) (show (0 : Int) ≤ 4294967296 by decide)
  omega

set_option maxRecDepth 100000 in
set_option maxHeartbeats 1000000 in
theorem rbit_c (ao : Option Addr) (n cap : Nat) (f : Nat → Int) (i : Nat) (w : World) (hn : n ≤ 1048576) (hr : Rd .u64 w ao n f) (hf : Dg f n) (hi : i < 32 * n) :
    Calls Tryz.prog 174 #[.slice ao n cap, .int .i64 i] w fun e w' => e = .returned (.int .u64 (vd f n / 2 ^ i % 2)) ∧ w' = w := by
  obtain ⟨j, s, rfl, hs⟩ : ∃ j s, i = 32 * j + s ∧ s ≤ 31 := ⟨i / 32, i % 32, by omega, by omega⟩
  have hj : j < n := by omega
  rw [← bit_num hf hj hs]
  obtain ⟨b, o, rfl⟩ := hr.at (by omega)
  obtain ⟨x, hx⟩ : ∃ x, f j = x := ⟨_, rfl⟩
  have hcell := hr.cell hj
  obtain ⟨x0, x1⟩ := hf j hj
  rw [hx] at hcell x0 x1 ⊢
  obtain ⟨z, hz⟩ : ∃ z : Int, ((32 * j + s : Nat) : Int) = z := ⟨_, rfl⟩
  rw [hz]
  have z0 : 0 ≤ z := by omega
  have z1 : z ≤ 67108927 := by omega
  have h3 : Int.tdiv z 32 = (j : Int) := by rw [Int.tdiv_eq_ediv_of_nonneg z0]; omega
  have h4 : Int.tmod z 32 = (s : Int) := by rw [Int.tmod_eq_emod_of_nonneg z0]; omega
  have d0 : 0 ≤ x / 2 ^ s := Int.ediv_nonneg x0 (Int.le_of_lt (p2_pos s))
  have d1 : x / 2 ^ s < 4294967296 := Int.lt_of_le_of_lt (Int.ediv_le_self _ x0) x1
  have HX := hid hx
  clear hx hz hr hf hi
  go_enter Tryz.func174, Tryz.ntmps174
  go_wp2
  go_ret
  exact ⟨rfl, rfl⟩

set_option maxRecDepth 100000 in
set_option maxHeartbeats 1000000 in
theorem rbits_c (ao : Option Addr) (n cap : Nat) (f : Nat → Int) (w : World) (hn : n ≤ 1048576) (hr : Rd .u64 w ao n f) (hf : Dg f n) :
    Calls Tryz.prog 172 #[.slice ao n cap] w fun e w' => ∃ B : Nat, e = .returned (.int .i64 B) ∧ (∃ q, w' = w.drewN q) ∧ Hid (B ≤ 32 * n ∧ vd f n < 2 ^ B) := by
  cases n with
  | zero =>
    go_enter Tryz.func172, Tryz.ntmps172
    go_wp2
    go_ret
    exact ⟨0, rfl, ⟨0, rfl⟩, by omega, by simp [vd]⟩
  | succ n =>
    obtain ⟨b, o, rfl⟩ := hr.at (by omega)
    obtain ⟨t, ht⟩ : ∃ t, f n = t := ⟨_, rfl⟩
    have hcell := hr.cell (j := n) (by omega)
    obtain ⟨t0, t1⟩ := hf n (by omega)
    rw [ht] at hcell t0 t1
    have HT := hid ht; have HF := hid hf
    clear ht hr hf
    go_enter Tryz.func172, Tryz.ntmps172
    go_wp2
    go_loopw [3, 4] (fun u v wr => ∃ (c : Nat) (x : Int), c ≤ 32 ∧ u = .int .i64 ((32 * n + c : Nat) : Int) ∧ v = .int .u64 x ∧ 0 ≤ x ∧ x < 4294967296 ∧ Hid (x * 2 ^ c ≤ t ∧ t < (x + 1) * 2 ^ c) ∧ ∃ q, wr = w.drewN q) (fun _ v _ => (intOf v).toNat)
    case atStart => exact ⟨0, t, by omega, by go_num, rfl, t0, t1, ⟨by rw [Int.pow_zero, Int.mul_one]; exact Int.le_refl _, by rw [Int.pow_zero, Int.mul_one]; omega⟩, 0, rfl⟩
    case round =>
      obtain ⟨c, x, hc, rfl, rfl, x0, x1, HX, q, rfl⟩ := hrel
      by_cases hx : 0 < x
      · have hfew := bits_few HX.out.1 hx t1
        have hh := bits_half HX.out.1 HX.out.2
        have HH := hid hh
        clear hh
        go_wp2
        go_roundw
        case rel => exact ⟨c + 1, x / 2, by omega, by go_num, by go_num, by omega, by omega, HH.out, q, rfl⟩
        case measure => simp [intOf]; omega
      · obtain rfl : x = 0 := by omega
        have htop := bits_top (c := c) HF.out (by rw [HT.out]; have := HX.out.2; simpa using this)
        have HTop := hid htop
        clear htop
        go_wp2
        go_ret
        exact ⟨32 * n + c, rfl, ⟨q, rfl⟩, by omega, HTop.out⟩

theorem dWord_c {w : World} {V : Nat} (hV : V < 4294967296) :
    Calls Tryz.prog 121 #[.int .u64 (V : Int)] w fun e w' => ∃ z k c d, e = .returned (.slice z k c) ∧ Below w.heap.size w w' ∧ Hid (k ≤ 1 ∧ Dn w' z k d V) :=
  (word_c V w (by omega) (by omega)).mono (fun _ _ ⟨k, h1, h2, h3, h4, h5, h6⟩ => ⟨_, k, 2, _, h1, h2, h3, h4, fun j hj => ⟨by omega, by omega⟩, h6, by
    rcases (show k = 0 ∨ k = 1 by omega) with h | h
    · subst h; have := h5 rfl; simp [vd]; omega
    · subst h; simp [vd, pd]⟩)
theorem dAddO_c {w x n c d A y m e g B} (ha : Dn w x n d A) (hb : Dn w y m g B) (hn : n ≤ 65536) (hm : m ≤ 65536) :
    Calls Tryz.prog 173 #[.slice x n c, .slice y m e] w fun e w' => ∃ z k c' q, e = .returned (.slice z k c') ∧ Below w.heap.size w w' ∧ Hid (k ≤ n + m + 1 ∧ Dn w' z k q (A + B) ∧ ∀ a, z = some a → w.heap.size ≤ a.block) :=
  (raddO_c x y n m c e d g w (by omega) (by omega) ha.rd hb.rd ha.dg hb.dg).mono (fun _ _ ⟨z, k, c', q, h1, h2, h3, h4, h5, h6, h8, h7⟩ => ⟨z, k, c', q, h1, h2, h4, ⟨h3, h5, h6, by rw [h7, ha.val, hb.val]; omega⟩, h8⟩)
theorem dSubO_c {w x n c d A y m e g B} (ha : Dn w x n d A) (hb : Dn w y m g B) (hn : n ≤ 65536) (hm : m ≤ 65536) (hle : B ≤ A) :
    Calls Tryz.prog 107 #[.slice x n c, .slice y m e] w fun e w' => ∃ z k c' q, e = .returned (.slice z k c') ∧ Below w.heap.size w w' ∧ Hid (k ≤ n ∧ Dn w' z k q (A - B) ∧ ∀ a, z = some a → w.heap.size ≤ a.block) :=
  (rsubO_c x y n m c e d g w (by omega) (by omega) (vd_len hb.dg ha.dg hb.fm (by rw [ha.val, hb.val]; omega)) ha.rd hb.rd ha.dg hb.dg (by rw [ha.val, hb.val]; omega)).mono (fun _ _ ⟨z, k, c', q, h1, h2, h3, h4, h5, h6, h8, h7⟩ => ⟨z, k, c', q, h1, h2, h4, ⟨h3, h5, h6, by rw [h7, ha.val, hb.val]; omega⟩, h8⟩)
theorem Dn.len {w x n d A y m g B} (ha : Dn w x n d A) (hb : Dn w y m g B) (hle : A ≤ B) : n ≤ m := vd_len ha.dg hb.dg ha.fm (by rw [ha.val, hb.val]; omega)
theorem Dn.setq {w x n d A} {G i : Nat} {u : Value} (h : Dn w x n d A) (hG : ∀ a, x = some a → G < a.block) : Dn (w.setCell ⟨G, i, none⟩ u) x n d A := ⟨h.rd.only ((Only.refl _ _).setCell _ _ _) (fun a ha => by have := hG a ha; omega), h.dg, h.fm, h.val⟩
theorem div_next0 {A V Qv R β : Nat} {k : Nat} (h : A / 2 ^ (k + 1) = Qv * V + R) (hb : A / 2 ^ k % 2 = β) : A / 2 ^ k = 2 * Qv * V + (R + R + β) := by
  have : A / 2 ^ (k + 1) = A / 2 ^ k / 2 := by rw [Nat.pow_succ, Nat.div_div_eq_div_mul]
  have e : 2 * Qv * V = 2 * (Qv * V) := Nat.mul_assoc _ _ _
  omega
theorem div_next1 {A V Qv R β : Nat} {k : Nat} (h : A / 2 ^ (k + 1) = Qv * V + R) (hb : A / 2 ^ k % 2 = β) (hge : V ≤ R + R + β) : A / 2 ^ k = (2 * Qv + 1) * V + (R + R + β - V) := by
  have := div_next0 h hb
  rw [Nat.add_mul, Nat.one_mul]; omega
theorem div_end {A V Q R : Nat} (h : A = Q * V + R) (hR : R < V) : A / V = Q ∧ A % V = R := by
  subst h
  constructor
  · rw [Nat.mul_comm, Nat.mul_add_div (by omega), Nat.div_eq_of_lt hR, Nat.add_zero]
  · rw [Nat.mul_comm, Nat.mul_add_mod, Nat.mod_eq_of_lt hR]

set_option maxRecDepth 100000 in
set_option maxHeartbeats 4000000 in
theorem rdivL_c {w : World} {x : Option Addr} {n c : Nat} {f : Nat → Int} {A : Nat} {y : Option Addr} {m e : Nat} {g : Nat → Int} {V : Nat} (ha : Dn w x n f A) (hb : Dn w y m g V) (hn : n ≤ 8192) (hm : m ≤ 8192) (hV : 0 < V) (hm1 : m ≠ 1) :
    Calls Tryz.prog 149 #[.slice x n c, .slice y m e] w fun e w' => ∃ zq kq cq q zr kr cr r, e = .returned (.tuple #[.slice zq kq cq, .slice zr kr cr]) ∧ Below w.heap.size w w' ∧ Hid (kq ≤ n ∧ kr ≤ m ∧ Dn w' zq kq q (A / V) ∧ Dn w' zr kr r (A % V)) := by
  have HA := hid ha; have HB := hid hb
  clear ha hb
  have hmd : ((m : Int) == 1) = false := by simp; omega
  go_enter Tryz.func149, Tryz.ntmps149
  go_wp2_with (at_make; refine wpList_make_blk .u64 w rfl (.tmp 20) (.tmp 20) 22 rfl 28 8 Tryz.underlying22 Tryz.infoU64 .i64 .i64 n n n rfl rfl rfl rfl (by omega) (by unfold maxLen; omega) ?_; intro wa hba hbela)
  have HAa := hid (HA.out.below hbela); have HBa := hid (HB.out.below hbela)
  have HQ := hid hba; have HW := hid hbela
  clear hba hbela
  refine (rbits_c x n c f _ (by omega) HAa.out.rd HAa.out.dg).mono ?_
  rintro e w1 ⟨B, rfl, ⟨q0, hq⟩, HBt⟩
  have hb := drewN_bel hq
  have HQ1 := hid (HQ.out.below hb HQ.out.lt); have HW1 := hid (HW.out.trans (hb.mono HW.out.size))
  clear hq hb HQ HW HAa HBa
  have hB32 := HBt.out.1
  go_wp2
  go_loopw [7, 8] (fun u t wr => ∃ (k kr cr R Qv : Nat) (z : Option Addr) (d Q : Nat → Int), k ≤ B ∧ t = .int .i64 ((k : Int) - 1) ∧ u = .slice z kr cr ∧ Hid (Below w.heap.size w wr) ∧ Hid (Blk .u64 28 wr w.heap.size n Q) ∧ Hid (Dg Q n) ∧ Hid (Dn wr z kr d R) ∧ Hid (∀ a, z = some a → w.heap.size < a.block) ∧ Hid (R < V) ∧ Hid (vd Q n = ((Qv * 2 ^ k : Nat) : Int)) ∧ Hid (A / 2 ^ k = Qv * V + R)) (fun _ t _ => (intOf t + 1).toNat)
  case atStart =>
    refine ⟨B, 0, 0, 0, 0, none, fun _ => 0, fun _ => 0, by omega, rfl, rfl, HW1.out, HQ1.out, fun j _ => ⟨Int.le_refl 0, show (0 : Int) < 4294967296 by decide⟩, ⟨Rd.zero, fun j hj => by omega, .inl rfl, rfl⟩, (fun a h => by cases h), hV, hid (by rw [vd_zero (fun _ _ => rfl)]; simp), hid ?_⟩
    have h2 := HBt.out.2
    rw [HA.out.val] at h2
    rw [Nat.div_eq_of_lt (by exact_mod_cast h2)]; omega
  case round =>
    clear HQ1 HW1
    obtain ⟨k, kr, cr, R, Qv, z, d, Q, hk, rfl, rfl, HWr, HQr, HDg, HR, HO, HRV, HVq, HVa⟩ := hrel
    have HAr := hid (HA.out.below HWr.out); have HBr := hid (HB.out.below HWr.out)
    have hkr : kr ≤ m := HR.out.len HBr.out (Nat.le_of_lt HRV.out)
    cases k with
    | zero =>
      go_wp2_with fail
      refine (low_c (some ⟨w.heap.size, 0, none⟩) n n Q wr (Nat.le_refl _) (by omega) (HQr.out.rd0 (Nat.le_refl _)) (fun h => by cases h)).mono ?_
      rintro e w2 ⟨rfl, k1, hk1, hz, hfm, rfl⟩
      have HZ2 := hid hz; have HFM := hid hfm
      clear hz hfm
      go_wp2
      go_ret2
      have hA : A = Qv * V + R := by have := HVa.out; simpa using this
      obtain ⟨e1, e2⟩ := div_end hA HRV.out
      refine ⟨_, k1, _, Q, z, kr, cr, d, rfl, HWr.out, hk1, hkr, ⟨(HQr.out.rd0 (Nat.le_refl _)).take hk1, HDg.out.mono hk1, HFM.out, ?_⟩, by rw [e2]; exact HR.out⟩
      rw [trim_vald hk1 HZ2.out, HVq.out, e1]; simp
    | succ k =>
      have hkb : k < 32 * n := by have := HBt.out.1; omega
      obtain ⟨β, hβ⟩ : ∃ β, A / 2 ^ k % 2 = β := ⟨_, rfl⟩
      have hβ1 : β < 2 := by rw [← hβ]; exact Nat.mod_lt _ (by decide)
      have HBe := hid hβ
      have CB := hid (show ∀ W, Below wr.heap.size wr W → Calls Tryz.prog 174 #[.slice x n c, .int .i64 (k : Int)] W fun e w' => e = .returned (.int .u64 (β : Int)) ∧ w' = W from fun W hW => (rbit_c x n c f k W (by omega) (HAr.out.below hW).rd HAr.out.dg hkb).mono (fun e w' ⟨h1, h2⟩ => ⟨by rw [h1, HAr.out.val, ← hβ]; simp, h2⟩))
      clear hβ
      go_wp2_with fail
      refine (dAddO_c HR.out HR.out (by omega) (by omega)).mono ?_
      rintro e w2 ⟨z2, k2, c2, d2, rfl, hb2, H2⟩
      have HB2 := hid hb2
      clear hb2
      go_wp2_with fail
      refine (CB.out _ HB2.out).mono ?_
      rintro e w3 ⟨rfl, rfl⟩
      go_wp2_with fail
      refine (dWord_c (V := β) (by omega)).mono ?_
      rintro e w4 ⟨z4, k4, c4, d4, rfl, hb4, H4⟩
      have HB4 := hid hb4
      clear hb4
      have hk2 := H2.out.1; have hk4 := H4.out.1
      go_wp2_with fail
      refine (dAddO_c (H2.out.2.1.below HB4.out) H4.out.2 (by omega) (by omega)).mono ?_
      rintro e w5 ⟨z5, k5, c5, d5, rfl, hb5, H5⟩
      have HB5 := hid (HB2.out.trans ((HB4.out.mono HB2.out.size).trans (hb5.mono (Nat.le_trans HB2.out.size HB4.out.size))))
      have hk5 := H5.out.1
      have HO5 : Hid (∀ a, z5 = some a → w.heap.size < a.block) := fun a ha => by
        have h1 := H5.out.2.2 a ha; have h2 := HB2.out.size; have h3 := HB4.out.size; have h4 := HQr.out.lt; omega
      clear hb5 HB2 HB4 H2 H4 CB
      go_wp2_with fail
      refine (rcmp_c z5 y k5 m c5 e d5 g _ (by omega) (by omega) H5.out.2.1.rd (HBr.out.below HB5.out).rd H5.out.2.1.dg HBr.out.dg H5.out.2.1.fm HBr.out.fm).mono ?_
      rintro e w6 ⟨⟨q6, hq6⟩, cc, rfl, hord⟩
      have hb6 := drewN_bel hq6
      rw [H5.out.2.1.val, HBr.out.val] at hord
      have HB6 := hid (HB5.out.trans (hb6.mono HB5.out.size)); have H6 := hid (H5.out.2.1.below hb6)
      clear hq6 hb6 HB5 H5
      by_cases hge : V ≤ R + R + β
      · have hsg : decide ((0 : Int) ≤ cc) = true := by
          rcases hord with ⟨h1, h2⟩ | ⟨h1, h2⟩ | ⟨h1, h2⟩ <;> subst h1 <;> first | rfl | (exfalso; omega)
        clear hord
        go_wp2_with fail
        refine (dSubO_c H6.out (HBr.out.below HB6.out) (by omega) (by omega) hge).mono ?_
        rintro e w7 ⟨z7, k7, c7, d7, rfl, hb7, H7⟩
        have HB7 := hid (HB6.out.trans (hb7.mono HB6.out.size))
        have HO7 : Hid (∀ a, z7 = some a → w.heap.size < a.block) := fun a ha => by
          have h1 := H7.out.2.2 a ha; have h2 := HB6.out.size; have h4 := HQr.out.lt; omega
        clear hb7 HB6 H6 hsg
        obtain ⟨j, s, hjs, hs⟩ : ∃ j s, k = 32 * j + s ∧ s ≤ 31 := ⟨k / 32, k % 32, by omega, by omega⟩
        have hj : j < n := by omega
        have HQ7 := hid (HQr.out.below HB7.out HQr.out.lt)
        obtain ⟨u, hu⟩ : ∃ u, Q j = u := ⟨_, rfl⟩
        have hcell := HQ7.out.cell hj
        have hfz := HQ7.out.frozen j
        obtain ⟨u0, u1⟩ := HDg.out j hj
        have hpow : ((Qv * 2 ^ (k + 1) : Nat) : Int) = (Qv : Int) * (2 ^ (s + 1) * pd j) := by
          rw [pd_pow, ← Int.pow_add, hjs, show s + 1 + 32 * j = 32 * j + s + 1 by omega]; simp
        have hroom := bit_room HDg.out hj hs (HVq.out.trans hpow)
        rw [hu] at hcell u0 u1 hroom
        have hp0 := p2_pos s
        have hp1 := p2_le hs
        obtain ⟨P, hP⟩ : ∃ P : Int, 2 ^ s = P := ⟨_, rfl⟩
        rw [hP] at hp0 hp1 hroom
        have z1 : (k : Int) ≤ 67108927 := by omega
        have h3 : Int.tdiv (k : Int) 32 = (j : Int) := by rw [Int.tdiv_eq_ediv_of_nonneg (by omega)]; omega
        have h4 : Int.tmod (k : Int) 32 = (s : Int) := by rw [Int.tmod_eq_emod_of_nonneg (by omega)]; omega
        have h5 : IntKind.u64.wrap (2 ^ s) = P := by rw [hP, IntKind.wrap_u64]; omega
        have h6 : k / 32 = j := by omega
        have h7 : k % 32 = s := by omega
        have h8 : (k : Int) / 32 = (j : Int) := by omega
        have h9 : (k : Int) % 32 = (s : Int) := by omega
        have HU := hid hu; have HP := hid hP; have HJS := hid hjs
        clear hu hP hpow hjs
        go_wp2_with fail
        go_region
        all_goals go_wp2
        go_roundw
        case rel =>
          refine ⟨k, k7, c7, R + R + β - V, 2 * Qv + 1, z7, d7, upd Q j (u + P), by omega, by go_num, rfl, below_only (HWr.out.trans (HB7.out.mono HWr.out.size)) (((Only.refl _ _).setCell _ _ _).drew) (Nat.le_refl _) (Nat.le_trans HWr.out.size HB7.out.size), (HQ7.out.set _ _).drew, HDg.out.upd ⟨by omega, hroom⟩, (H7.out.2.1.setq HO7.out).drew, HO7.out, hid ?_, hid ?_, hid (div_next1 HVa.out HBe.out hge)⟩
          · have := HRV.out; omega
          · rw [vd_upd hj, HVq.out, HU.out, ← HP.out, pd_pow, show u + 2 ^ s - u = (2 : Int) ^ s by omega, ← Int.pow_add, show s + 32 * j = k by have := HJS.out; omega, Nat.pow_succ]
            push_cast
            grind
        case measure => simp [intOf]
      · have hsg : decide ((0 : Int) ≤ cc) = false := by
          rcases hord with ⟨h1, h2⟩ | ⟨h1, h2⟩ | ⟨h1, h2⟩ <;> subst h1 <;> first | rfl | (exfalso; omega)
        clear hord
        go_wp2
        go_roundw
        case rel =>
          refine ⟨k, k5, c5, R + R + β, 2 * Qv, z5, d5, Q, by omega, by go_num, rfl, HWr.out.trans (HB6.out.mono HWr.out.size), HQr.out.below HB6.out HQr.out.lt, HDg.out, H6.out, HO5.out, hid (by omega), hid ?_, hid (div_next0 HVa.out HBe.out)⟩
          rw [HVq.out, Nat.pow_succ]; push_cast; grind
        case measure => simp [intOf]

set_option maxRecDepth 100000 in
set_option maxHeartbeats 2000000 in
theorem rdivS_c {w : World} {x : Option Addr} {n c : Nat} {f : Nat → Int} {A : Nat} {y : Option Addr} {e : Nat} {g : Nat → Int} {V : Nat} (ha : Dn w x n f A) (hb : Dn w y 1 g V) (hn : n ≤ 8192) :
    Calls Tryz.prog 149 #[.slice x n c, .slice y 1 e] w fun e w' => ∃ zq kq cq q zr kr cr r, e = .returned (.tuple #[.slice zq kq cq, .slice zr kr cr]) ∧ Below w.heap.size w w' ∧ Hid (kq ≤ n ∧ kr ≤ 1 ∧ Dn w' zq kq q (A / V) ∧ Dn w' zr kr r (A % V)) := by
  obtain ⟨b, o, rfl⟩ := hb.rd.at (by omega)
  have hcell := hb.rd.cell (j := 0) (by omega)
  obtain ⟨t0, t1⟩ := hb.dg 0 (by omega)
  have hv := hb.val
  have hne : g 0 ≠ 0 := by rcases hb.fm with h | h; omega; exact h
  obtain ⟨t, ht⟩ : ∃ t, g 0 = t := ⟨_, rfl⟩
  have hv1 : vd g 1 = g 0 := by simp [vd, pd]
  rw [hv1] at hv
  rw [ht] at hcell t0 t1 hv hne
  rw [Nat.add_zero] at hcell
  have HA := hid ha; have HV := hid hv
  clear ha hb ht hv hv1
  go_enter Tryz.func149, Tryz.ntmps149
  go_wp2_with fail
  refine (short_c x n c f t _ (by omega) HA.out.rd HA.out.dg (by omega) t1).mono ?_
  rintro e w2 ⟨a1, k1, c1, q, a2, k2, c2, R, rfl, hb2, hk1, hr1, hd1, hf1, hk2, hr2, hx2, hf2, hR0, hR1, hval⟩
  have hq0 := vd_nonneg hd1
  have hres : Hid (k1 ≤ n ∧ k2 ≤ 1 ∧ Dn w2 a1 k1 q (A / V) ∧ Dn w2 a2 k2 (fun _ => R) (A % V)) := by
    obtain ⟨Q, hQ⟩ : ∃ Q : Nat, vd q k1 = Q := ⟨(vd q k1).toNat, by omega⟩
    obtain ⟨r, hr⟩ : ∃ r : Nat, R = r := ⟨R.toNat, by omega⟩
    have e1 : A = Q * V + r := by
      rw [HA.out.val, hQ, hr, HV.out] at hval
      exact_mod_cast hval
    obtain ⟨e2, e3⟩ := div_end e1 (by have := HV.out; omega)
    refine ⟨hk1, hk2, ⟨hr1, hd1, hf1, by rw [hQ, e2]⟩, ⟨hr2, fun j hj => ⟨hR0, by omega⟩, hf2, ?_⟩⟩
    rw [e3]
    rcases (show k2 = 0 ∨ k2 = 1 by omega) with h | h
    · subst h; have := hx2 rfl; simp [vd]; omega
    · subst h; simp [vd, pd]; exact hr
  have HB2 := hid hb2
  clear hb2 hr1 hd1 hf1 hr2 hx2 hf2 hval hq0
  go_wp2
  go_ret2
  exact ⟨a1, k1, c1, q, a2, k2, c2, _, rfl, HB2.out, hres.out⟩

theorem rdiv_c {w : World} {x : Option Addr} {n c : Nat} {f : Nat → Int} {A : Nat} {y : Option Addr} {m e : Nat} {g : Nat → Int} {V : Nat} (ha : Dn w x n f A) (hb : Dn w y m g V) (hn : n ≤ 8192) (hm : m ≤ 8192) (hV : 0 < V) :
    Calls Tryz.prog 149 #[.slice x n c, .slice y m e] w fun e w' => ∃ zq kq cq q zr kr cr r, e = .returned (.tuple #[.slice zq kq cq, .slice zr kr cr]) ∧ Below w.heap.size w w' ∧ Hid (kq ≤ n ∧ kr ≤ m ∧ Dn w' zq kq q (A / V) ∧ Dn w' zr kr r (A % V)) := by
  by_cases h1 : m = 1
  · subst h1; exact rdivS_c ha hb hn
  · exact rdivL_c ha hb hn hm hV h1
end Go.Proofs.YtclopblgdiahiaaGreatDoor
namespace Go.Proofs.YtclopblgdiahiaaGreatDoor
open Go.RowKit

theorem pow_z {z : Int} (z0 : 0 ≤ z) : (2 : Int) ^ (z % 64).toNat * pw (z / 64).toNat = 2 ^ z.toNat := by
  rw [pw_pow, ← Int.pow_add]; congr 1; omega
theorem pow_zd {z : Int} (z0 : 0 ≤ z) : (2 : Int) ^ (z % 32).toNat * pd (z / 32).toNat = 2 ^ z.toNat := by
  rw [pd_pow, ← Int.pow_add]; congr 1; omega

set_option maxRecDepth 100000 in
set_option maxHeartbeats 2000000 in
/-- Shl of the reference: a * 2^(32 * o + s), on digits. -/
theorem rshl_c (ao : Option Addr) (n ca o : Nat) (z s : Int) (f : Nat → Int) (w : World) (hn : n ≤ 1048576) (ho : o ≤ 1048576) (s0 : 0 ≤ s) (s1 : s ≤ 31) (hz : z = 32 * o + s) (hr : Rd .u64 w ao n f) (hf : Dg f n) :
    Calls Tryz.prog 108 #[.slice ao n ca, .int .i64 z] w fun e w' => ∃ ao' k cap' D, e = .returned (.slice ao' k cap') ∧ Below w.heap.size w w' ∧ Rd .u64 w' ao' k D ∧ k ≤ o + n + 1 ∧ Dg D k ∧ Fm D k ∧ vd D k = vd f n * (2 ^ s.toNat * pd o) := by
  have HF := hid hf
  have HRd := hid hr
  clear hf hr
  have z0 : 0 ≤ z := by omega
  have z1 : z ≤ 67108927 := by omega
  have h1 : z / 32 = (o : Int) := by omega
  have h2 : z % 32 = s := by omega
  have h3 : Int.tdiv z 32 = (o : Int) := by rw [Int.tdiv_eq_ediv_of_nonneg z0]; exact h1
  have h4 : Int.tmod z 32 = s := by rw [Int.tmod_eq_emod_of_nonneg z0]; exact h2
  clear hz
  by_cases hn0 : n = 0
  · subst hn0
    go_enter Tryz.func108, Tryz.ntmps108
    go_wp2
    go_ret
    exact ⟨none, 0, 0, f, rfl, Below.refl _ _, Rd.zero, by omega, fun j hj => by omega, .inl rfl, by simp [vd]⟩
  · have hnz : ((n : Int) == 0) = false := by simp; omega
    have p0 : (0 : Int) < 2 ^ s.toNat := Int.pow_pos (by decide)
    have p1 : (2 : Int) ^ s.toNat ≤ 2147483648 := by
      have : (2 : Int) ^ s.toNat * 2 ^ (31 - s).toNat = 2147483648 := by rw [← Int.pow_add, show s.toNat + (31 - s).toNat = 31 by omega]; rfl
      have q0 : (0 : Int) < 2 ^ (31 - s).toNat := Int.pow_pos (by decide)
      have := Int.mul_le_mul_of_nonneg_left (show (1 : Int) ≤ 2 ^ (31 - s).toNat by omega) (Int.le_of_lt p0)
      omega
    have P0 := hid p0
    have P1 := hid p1
    clear p0 p1
    go_enter Tryz.func108, Tryz.ntmps108
    go_wp2_with (at_make; refine wpList_make_two .u64 w rfl (.tmp 13) (.tmp 19) 22 rfl 28 8 Tryz.underlying22 Tryz.infoU64 .i64 .i64 _ _ o (o + n + 1) rfl rfl (by omega) (by omega) (by omega) (by omega) (by unfold maxLen; omega) ?_; intro w1 hb1 hbel1)
    have HO1 := hid (own_of_blk hb1 (base := w.heap.size) (n := o) (Nat.le_refl _) (by omega) (by unfold maxLen; omega))
    clear hb1
    go_loopw [5, 6, 23] (fun v c t wr => ∃ (k : Nat) (cc : Int) (D : Nat → Int), k ≤ n ∧ t = .int .i64 k ∧ c = .int .u64 cc ∧ 0 ≤ cc ∧ cc < 2147483648 ∧ Hid (cc < 2 ^ s.toNat) ∧ Below w.heap.size w wr ∧ Hid (Own .u64 28 wr w.heap.size v (o + k) D) ∧ Hid (Dg D (o + k)) ∧ Hid (vd D (o + k) + cc * pd (o + k) = vd f k * (2 ^ s.toNat * pd o))) (fun _ _ t _ => n - (intOf t).toNat)
    case atStart => exact ⟨0, 0, fun _ => 0, by omega, rfl, rfl, by omega, by omega, P0.out, hbel1, HO1.out, fun j hj => ⟨Int.le_refl 0, show (0 : Int) < 4294967296 by decide⟩, by simp [Hid, vd, vd_zero]⟩
    case round =>
      clear hbel1 HO1
      obtain ⟨k, cc, D, hk, rfl, rfl, c0, c1, HC, hbel, HO, HDg, HV⟩ := hrel
      by_cases hlt : k < n
      · have hrA := HRd.out
        obtain ⟨b, ob, rfl⟩ := hrA.at (by omega)
        obtain ⟨x, hx⟩ : ∃ x, f k = x := ⟨_, rfl⟩
        have hcell : wr.cell? ⟨b, ob + k, none⟩ = some (.int .u64 x) := by rw [← hx]; exact (hrA.below hbel (Nat.le_refl _)).cell hlt
        obtain ⟨x0, x1⟩ := HF.out k hlt
        rw [hx] at x0 x1
        have HX := hid hx
        clear hx hrA
        obtain ⟨d1, d2, d3, d4, d5⟩ := dshl_carry c0 HC.out x0 x1 P0.out
        obtain ⟨X, eX, HXe⟩ : ∃ X, IntKind.u64.wrap (x * 2 ^ s.toNat) = X ∧ Hid (X = x * 2 ^ s.toNat) := ⟨x * 2 ^ s.toNat, by have := P1.out; rw [IntKind.wrap_u64]; omega, rfl⟩
        have X0 : 0 ≤ X := by rw [HXe.out]; exact d4
        have X1 : X < 9223372036854775808 := by have := P1.out; rw [HXe.out]; omega
        have HD3 := hid d3
        clear d1 d2 d3 d4 d5
        go_wp2_with (at_builtin; refine wpList_append_own_list .u64 _ rfl (.tmp 33) (.tmp 36) 22 rfl w.heap.size 28 8 Tryz.underlying22 Tryz.infoU64 _ (o + k) D rfl (Own.alloc HO.out _) wr.heap.size 0 1 1 (fun _ => (cc + X) % 4294967296) rfl (rd_new1 wr _ _) ?c1 ?c2 ?c3 ?_)
        case c1 => unfold maxLen; omega
        case c2 => omega
        case c3 => have := hbel.size; simp; omega
        intro v' w' hown hgr
        have hbel2 : Below w.heap.size w w' := (hbel.alloc hbel.size _).grown hgr (by have := hbel.size; simp; omega) (fun k h => (Own.ge HO.out k h))
        have HO2 := hid hown
        clear hown hgr HO
        go_wp2
        go_roundw
        case rel =>
          refine ⟨k + 1, _, _, by omega, by go_num, rfl, by omega, ?_, ?_, hbel2, HO2.out, dg_cat1 HDg.out (by omega), ?_⟩
          · have h5 := HD3.out; have h6 := P1.out; rw [← HXe.out] at h5; omega
          · have h5 := HD3.out; rw [← HXe.out] at h5; exact h5
          · have h5 := dshl_step HV.out HX.out
            rw [← HXe.out] at h5; exact h5
        case measure => simp [intOf]; omega
      · have hkn : k = n := by omega
        subst hkn
        go_wp2_with (at_builtin; refine wpList_append_own_list .u64 _ rfl (.tmp 41) (.tmp 43) 22 rfl w.heap.size 28 8 Tryz.underlying22 Tryz.infoU64 _ (o + k) D rfl (Own.alloc HO.out _) wr.heap.size 0 1 1 (fun _ => cc) rfl (rd_new1 wr _ _) ?c1 ?c2 ?c3 ?_)
        case c1 => unfold maxLen; omega
        case c2 => omega
        case c3 => have := hbel.size; simp; omega
        intro v' w' hown hgr
        have hbel2 : Below w.heap.size w w' := (hbel.alloc hbel.size _).grown hgr (by have := hbel.size; simp; omega) (fun k h => (Own.ge HO.out k h))
        obtain ⟨ao', cap', hv, hcc, hnn, hml, hrd, hlt3⟩ := Own.shape hown
        unfold maxLen at hml
        subst hv
        clear hown hgr HO hlt3
        go_wp2_with fail
        refine (low_c ao' (o + k + 1) cap' (cat D (o + k) (fun _ => cc)) w' hcc hml hrd hnn).mono ?_
        rintro e w2 ⟨rfl, m', hm1, hz, hfm, rfl⟩
        have HZ := hid hz
        have HFM := hid hfm
        clear hz hfm
        go_wp2
        go_ret
        refine ⟨ao', m', cap', _, rfl, hbel2, hrd.take hm1, by omega, (dg_cat1 HDg.out (by omega)).mono hm1, HFM.out, ?_⟩
        rw [trim_vald hm1 HZ.out, vd_cat1, HV.out]

end Go.Proofs.YtclopblgdiahiaaGreatDoor

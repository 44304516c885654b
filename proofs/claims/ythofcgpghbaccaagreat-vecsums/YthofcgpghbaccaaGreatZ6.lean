/-
  The walk of package rat's mul. Walks of package rat's calls Form, Add, Sub, Mul, Quo on numbers in form; the document's Same and Light. Lists of terms in memory; the walks of package vec's isZero and Form. Walks of the document's reference for whole: Form, From, Text, Read, DocText, DocRead. The walk of the document's reference for nat: Mul. Digits to the base 2^32 that can be read, with their number; the reference's Add, Sub, Mul on them. Walks of the document's reference for rat: word, Mk of short numbers. Walks of the document's reference for rat: Mk of short numbers. Walks of the document's reference for rat: To, DocMake of short numbers; the statements' own num. Walks of the statements' own num, and of package rat's calls Make and Floor. The walk of package rat's call Floor. Walks of package rat's clone, Copy and Neg. Lists of rational numbers in memory; the walks of package vec's allForm, allBelow, plus and times. Walks of the document's Same and Light of rational numbers, and of the statements' own light.
-/
import Derived.Test.YthofcgpghbaccaaGreatZ5
import Derived.Test.YthofcgpghbaccaaGreatZ4
namespace Go.Proofs.YthofcgpghbaccaaGreat
open Go.RowKit

theorem mul_made {a b : Rat} {s t : Bool} (ha : a.num = sg s a.num.natAbs) (hb : b.num = sg t b.num.natAbs) :
    sg (s != t) (a.num.natAbs / a.num.natAbs.gcd b.den * (b.num.natAbs / b.num.natAbs.gcd a.den)) = (a * b).num ∧ a.den / b.num.natAbs.gcd a.den * (b.den / a.num.natAbs.gcd b.den) = (a * b).den := by
  have := rmul (a := a) (b := b) (s := s) (t := t) (G := a.num.natAbs.gcd b.den) (H := b.num.natAbs.gcd a.den) (NA := a.num.natAbs / a.num.natAbs.gcd b.den) (NB := b.num.natAbs / b.num.natAbs.gcd a.den) (DA := a.den / b.num.natAbs.gcd a.den) (DB := b.den / a.num.natAbs.gcd b.den)
    (by rw [Nat.div_mul_cancel (Nat.gcd_dvd_left _ _)]; exact ha) (by rw [Nat.div_mul_cancel (Nat.gcd_dvd_left _ _)]; exact hb) rfl rfl (Nat.div_mul_cancel (Nat.gcd_dvd_right _ _)) (Nat.div_mul_cancel (Nat.gcd_dvd_right _ _))
  exact ⟨this.1.symm, this.2.symm⟩

set_option maxRecDepth 100000 in
set_option maxHeartbeats 4000000 in
theorem ratmul_c {L : Nat} {w : World} {sa : Bool} {xa : Option Addr} {na ca : Nat} {fa : Nat → Int} {ya : Option Addr} {ma da : Nat} {ga : Nat → Int} {a : Rat} {sb : Bool} {xb : Option Addr} {nb cb : Nat} {fb : Nat → Int} {yb : Option Addr} {mb db : Nat} {gb : Nat → Int} {b : Rat} (ha : Rn L w sa xa na ca fa ya ma da ga a) (hb : Rn L w sb xb nb cb fb yb mb db gb b) (hL : L ≤ 200000) :
    Calls Tryz.prog 100 #[.agg #[.bool sa, .slice xa na ca, .slice ya ma da], .agg #[.bool sb, .slice xb nb cb, .slice yb mb db]] w fun e w' => RatAns (2 * L + 1) w w' e (a * b) := by
  have b1 := ha.ln; have b2 := ha.ld; have b3 := hb.ln; have b4 := hb.ld
  have hbel := Below.refl (((w.alloc (.cells #[.bool sa, .slice xa na ca, .slice ya ma da] 25)).alloc (.cells #[.bool sb, .slice xb nb cb, .slice yb mb db] 25)).alloc (.cells #[.bool false, .slice none 0 0, .slice none 0 0] 25)).heap.size (((w.alloc (.cells #[.bool sa, .slice xa na ca, .slice ya ma da] 25)).alloc (.cells #[.bool sb, .slice xb nb cb, .slice yb mb db] 25)).alloc (.cells #[.bool false, .slice none 0 0, .slice none 0 0] 25))
  obtain ⟨t1, hw⟩ := three_new hbel
  have h1 := (((ha.alloc (.cells #[.bool sa, .slice xa na ca, .slice ya ma da] 25)).alloc (.cells #[.bool sb, .slice xb nb cb, .slice yb mb db] 25)).alloc (.cells #[.bool false, .slice none 0 0, .slice none 0 0] 25))
  have h2 := (((hb.alloc (.cells #[.bool sa, .slice xa na ca, .slice ya ma da] 25)).alloc (.cells #[.bool sb, .slice xb nb cb, .slice yb mb db] 25)).alloc (.cells #[.bool false, .slice none 0 0, .slice none 0 0] 25))
  clear hbel ha hb
  go_enter Tryz.func100, Tryz.ntmps100
  go_wp2_with fail
  generalize ((w.alloc (.cells #[.bool sa, .slice xa na ca, .slice ya ma da] 25)).alloc (.cells #[.bool sb, .slice xb nb cb, .slice yb mb db] 25)).alloc (.cells #[.bool false, .slice none 0 0, .slice none 0 0] 25) = w1 at *
  have HA1 := hid h1; have HB1 := hid h2; have T1 := hid t1; have HW1 := hid hw
  obtain ⟨hz, x0, x1, x2, y0, y1, y2, z0, z1, z2, zf⟩ := t1
  have hza : w.heap.size < w1.heap.size := by omega
  have hzb : w.heap.size + 1 < w1.heap.size := by omega
  clear h1 h2 hw
  have hG0 : 0 < a.num.natAbs.gcd b.den := Nat.gcd_pos_of_pos_right _ b.den_pos
  have hH0 : 0 < b.num.natAbs.gcd a.den := Nat.gcd_pos_of_pos_right _ a.den_pos
  have C1 : Hid (∀ W, Below w1.heap.size w1 W → Calls Tryz.prog 77 #[.slice xa na ca, .slice yb mb db] W fun e w' => ∃ z k e' h, e = .returned (.slice z k e') ∧ Below W.heap.size W w' ∧ Hid (k ≤ L ∧ Wn w' false z k e' h (a.num.natAbs.gcd b.den : Nat))) := fun W hW => (ratGcd_c (HA1.out.num.mag.below hW) (HB1.out.den.below hW) (by omega) (by omega)).mono (fun e w' ⟨z, k, e', h, h1, h2, h3⟩ => ⟨z, k, e', h, h1, h2, Nat.le_trans (h3.len_le ((HB1.out.den.below hW).below h2) (Nat.gcd_le_right _ b.den_pos)) (by omega), h3⟩)
  have C2 : Hid (∀ W, Below w1.heap.size w1 W → Calls Tryz.prog 77 #[.slice xb nb cb, .slice ya ma da] W fun e w' => ∃ z k e' h, e = .returned (.slice z k e') ∧ Below W.heap.size W w' ∧ Hid (k ≤ L ∧ Wn w' false z k e' h (b.num.natAbs.gcd a.den : Nat))) := fun W hW => (ratGcd_c (HB1.out.num.mag.below hW) (HA1.out.den.below hW) (by omega) (by omega)).mono (fun e w' ⟨z, k, e', h, h1, h2, h3⟩ => ⟨z, k, e', h, h1, h2, Nat.le_trans (h3.len_le ((HA1.out.den.below hW).below h2) (Nat.gcd_le_right _ a.den_pos)) (by omega), h3⟩)
  go_region_held3 (fun w' => w'.cell? ⟨w.heap.size, 1, none⟩ = some (.slice xa na ca) ∧ w'.cell? ⟨w.heap.size + 1, 2, none⟩ = some (.slice yb mb db) ∧ w'.cell? ⟨w.heap.size + 1, 1, none⟩ = some (.slice xb nb cb) ∧ w'.cell? ⟨w.heap.size, 2, none⟩ = some (.slice ya ma da))
    (refine ⟨?_, ?_, ?_, ?_⟩ <;> repeat (with_reducible first | assumption | refine kCd ?_ | refine kCa ?_ | refine kCb (by assumption) ?_))
    (first
      | (go_at_call 77; with_reducible refine (C1.out _ (by repeat (with_reducible first | assumption | exact Below.refl _ _ | refine Below.drew ?_ | refine kBa ?_ | refine kBb (by assumption) ?_))).mono ?_; rintro e w2 ⟨zg, kg, cg, fg, rfl, hb2, HG⟩)
      | (go_at_call 77; with_reducible refine (C2.out _ (by repeat (with_reducible first | assumption | exact Below.refl _ _ | refine Below.drew ?_ | refine kBa ?_ | refine kBb (by assumption) ?_))).mono ?_; rintro e w3 ⟨zh, kh, ch, fh, rfl, hb3, HH⟩))
  have WG3 := hid (HG.out.2.below hb3); have WH3 := hid HH.out.2
  have hkg := HG.out.1; have hkh := HH.out.1
  have hb : Below w1.heap.size w1 w3 := (by repeat (with_reducible first | assumption | exact Below.refl _ _ | refine Below.drew ?_ | refine kBa ?_ | refine kBb (by assumption) ?_))
  clear HG HH C1 C2 hb2 hb3
  have HA3 := hid (HA1.out.below hb); have HB3 := hid (HB1.out.below hb); have T3 := hid (T1.out.below hb); have HW3 := hid (HW1.out.trans (hb.mono HW1.out.size))
  clear HA1 HB1 T1 HW1 hb
  clear hza hzb hz x0 x1 x2 y0 y1 y2 z0 z1 z2 zf
  obtain ⟨hz, x0, x1, x2, y0, y1, y2, z0, z1, z2, zf⟩ := T3.out
  have hza : w.heap.size < w3.heap.size := by omega
  have hzb : w.heap.size + 1 < w3.heap.size := by omega
  have C1 : Hid (∀ W, Below w3.heap.size w3 W → Calls Tryz.prog 105 #[.slice xa na ca, .slice zg kg cg] W fun e w' => ∃ z k e' h, e = .returned (.slice z k e') ∧ Below W.heap.size W w' ∧ Hid (k ≤ L ∧ Wn w' false z k e' h (a.num.natAbs / a.num.natAbs.gcd b.den : Nat))) := fun W hW => (over_c (HA3.out.num.mag.below hW) (WG3.out.below hW) hG0 (by omega) (by omega)).mono (fun e w' ⟨z, k, e', h, h1, h2, h3⟩ => ⟨z, k, e', h, h1, h2, by have := h3.out.1; omega, h3.out.2⟩)
  have C2 : Hid (∀ W, Below w3.heap.size w3 W → Calls Tryz.prog 105 #[.slice xb nb cb, .slice zh kh ch] W fun e w' => ∃ z k e' h, e = .returned (.slice z k e') ∧ Below W.heap.size W w' ∧ Hid (k ≤ L ∧ Wn w' false z k e' h (b.num.natAbs / b.num.natAbs.gcd a.den : Nat))) := fun W hW => (over_c (HB3.out.num.mag.below hW) (WH3.out.below hW) hH0 (by omega) (by omega)).mono (fun e w' ⟨z, k, e', h, h1, h2, h3⟩ => ⟨z, k, e', h, h1, h2, by have := h3.out.1; omega, h3.out.2⟩)
  go_wp2_with fail
  go_region_held3 (fun w' => w'.cell? ⟨w.heap.size, 1, none⟩ = some (.slice xa na ca) ∧ w'.cell? ⟨w.heap.size + 1, 1, none⟩ = some (.slice xb nb cb))
    (refine ⟨?_, ?_⟩ <;> repeat (with_reducible first | assumption | refine kCd ?_ | refine kCa ?_ | refine kCb (by assumption) ?_))
    (first
      | (go_at_call 105; with_reducible refine (C1.out _ (by repeat (with_reducible first | assumption | exact Below.refl _ _ | refine Below.drew ?_ | refine kBa ?_ | refine kBb (by assumption) ?_))).mono ?_; rintro e w4 ⟨zp, kp, cp, fp, rfl, hb4, HP⟩)
      | (go_at_call 105; with_reducible refine (C2.out _ (by repeat (with_reducible first | assumption | exact Below.refl _ _ | refine Below.drew ?_ | refine kBa ?_ | refine kBb (by assumption) ?_))).mono ?_; rintro e w5 ⟨zq, kq, cq, fq, rfl, hb5, HQ⟩)
      | (go_at_call 108; with_reducible refine (natMul_n (HP.out.2.below hb5) HQ.out.2 (by have := HP.out.1; omega) (by have := HQ.out.1; omega)).mono ?_; rintro e w6 ⟨zn, kn, cn, fn, rfl, hb6, hkn, hmn⟩))
  have WN6 := hid hmn
  have hkp := HP.out.1; have hkq := HQ.out.1
  have hb : Below w3.heap.size w3 w6 := (by repeat (with_reducible first | assumption | exact Below.refl _ _ | refine Below.drew ?_ | refine kBa ?_ | refine kBb (by assumption) ?_))
  clear HP HQ C1 C2 hb4 hb5 hb6 hmn
  have HA6 := hid (HA3.out.below hb); have HB6 := hid (HB3.out.below hb); have T6 := hid (T3.out.below hb); have WG6 := hid (WG3.out.below hb); have WH6 := hid (WH3.out.below hb); have HW6 := hid (HW3.out.trans (hb.mono HW3.out.size))
  clear HA3 HB3 T3 WG3 WH3 HW3 hb
  clear hza hzb hz x0 x1 x2 y0 y1 y2 z0 z1 z2 zf
  obtain ⟨hz, x0, x1, x2, y0, y1, y2, z0, z1, z2, zf⟩ := T6.out
  have hza : w.heap.size < w6.heap.size := by omega
  have hzb : w.heap.size + 1 < w6.heap.size := by omega
  have C1 : Hid (∀ W, Below w6.heap.size w6 W → Calls Tryz.prog 105 #[.slice ya ma da, .slice zh kh ch] W fun e w' => ∃ z k e' h, e = .returned (.slice z k e') ∧ Below W.heap.size W w' ∧ Hid (k ≤ L ∧ Wn w' false z k e' h (a.den / b.num.natAbs.gcd a.den : Nat))) := fun W hW => (over_c (HA6.out.den.below hW) (WH6.out.below hW) hH0 (by omega) (by omega)).mono (fun e w' ⟨z, k, e', h, h1, h2, h3⟩ => ⟨z, k, e', h, h1, h2, by have := h3.out.1; omega, h3.out.2⟩)
  have C2 : Hid (∀ W, Below w6.heap.size w6 W → Calls Tryz.prog 105 #[.slice yb mb db, .slice zg kg cg] W fun e w' => ∃ z k e' h, e = .returned (.slice z k e') ∧ Below W.heap.size W w' ∧ Hid (k ≤ L ∧ Wn w' false z k e' h (b.den / a.num.natAbs.gcd b.den : Nat))) := fun W hW => (over_c (HB6.out.den.below hW) (WG6.out.below hW) hG0 (by omega) (by omega)).mono (fun e w' ⟨z, k, e', h, h1, h2, h3⟩ => ⟨z, k, e', h, h1, h2, by have := h3.out.1; omega, h3.out.2⟩)
  go_wp2_with fail
  go_region_held3 (fun w' => w'.cell? ⟨w.heap.size, 2, none⟩ = some (.slice ya ma da) ∧ w'.cell? ⟨w.heap.size + 1, 2, none⟩ = some (.slice yb mb db))
    (refine ⟨?_, ?_⟩ <;> repeat (with_reducible first | assumption | refine kCd ?_ | refine kCa ?_ | refine kCb (by assumption) ?_))
    (first
      | (go_at_call 105; with_reducible refine (C1.out _ (by repeat (with_reducible first | assumption | exact Below.refl _ _ | refine Below.drew ?_ | refine kBa ?_ | refine kBb (by assumption) ?_))).mono ?_; rintro e w7 ⟨zr, kr, cr, fr, rfl, hb7, HP⟩)
      | (go_at_call 105; with_reducible refine (C2.out _ (by repeat (with_reducible first | assumption | exact Below.refl _ _ | refine Below.drew ?_ | refine kBa ?_ | refine kBb (by assumption) ?_))).mono ?_; rintro e w8 ⟨zs, ks, cs, fs, rfl, hb8, HQ⟩)
      | (go_at_call 108; with_reducible refine (natMul_n (HP.out.2.below hb8) HQ.out.2 (by have := HP.out.1; omega) (by have := HQ.out.1; omega)).mono ?_; rintro e w9 ⟨zd, kd, cd, fd, rfl, hb9, hkd, hmd⟩))
  have WD9 := hid hmd
  have hkr := HP.out.1; have hks := HQ.out.1
  have hb : Below w6.heap.size w6 w9 := (by repeat (with_reducible first | assumption | exact Below.refl _ _ | refine Below.drew ?_ | refine kBa ?_ | refine kBb (by assumption) ?_))
  clear HP HQ C1 C2 hb7 hb8 hb9 hmd
  have HA9 := hid (HA6.out.below hb); have HB9 := hid (HB6.out.below hb); have T9 := hid (T6.out.below hb); have WN9 := hid (WN6.out.below hb); have HW9 := hid (HW6.out.trans (hb.mono HW6.out.size))
  clear HA6 HB6 T6 WN6 HW6 hb
  clear hza hzb hz x0 x1 x2 y0 y1 y2 z0 z1 z2 zf
  obtain ⟨hz, x0, x1, x2, y0, y1, y2, z0, z1, z2, zf⟩ := T9.out
  have hza : w.heap.size < w9.heap.size := by omega
  have hzb : w.heap.size + 1 < w9.heap.size := by omega
  go_wp2_with fail
  refine (rsigned_c _ zn zd kn cn kd cd _ (by omega)).mono ?_
  rintro e w10 ⟨rs, rfl, HRS, hb⟩
  have HA10 := hid (HA9.out.below hb); have HB10 := hid (HB9.out.below hb); have T10 := hid (T9.out.below hb); have WN10 := hid (WN9.out.below hb); have WD10 := hid (WD9.out.below hb); have HW10 := hid (HW9.out.trans (hb.mono HW9.out.size))
  clear HA9 HB9 T9 WN9 WD9 HW9 hb
  clear hza hzb hz x0 x1 x2 y0 y1 y2 z0 z1 z2 zf
  obtain ⟨hz, x0, x1, x2, y0, y1, y2, z0, z1, z2, zf⟩ := T10.out
  have hza : w.heap.size < w10.heap.size := by omega
  have hzb : w.heap.size + 1 < w10.heap.size := by omega
  have hm := mul_made HA10.out.num.sgn HB10.out.num.sgn
  go_wp2
  refine bodyPost_ret (v := .agg #[.bool rs, .slice zn kn cn, .slice zd kd cd]) (by simp [results, Tryz.results100, go_sem, z0, z1, z2]) rfl ⟨rs, zn, kn, cn, fn, zd, kd, cd, fd, rfl, below_store HW10.out, ⟨?_, ?_, ?_, ?_⟩⟩
  · rw [← hm.1]; exact T10.out.store (WN10.out.resign HRS.out)
  · rw [← hm.2]; exact T10.out.store WD10.out
  · omega
  · omega
end Go.Proofs.YthofcgpghbaccaaGreat
namespace Go.Proofs.YthofcgpghbaccaaGreat
open Go.RowKit

/-- Two lists of limbs that can be read: numerator and denominator, in form or not. -/
structure Rw (w : World) (x : Option Addr) (n c : Nat) (f : Nat → Int) (y : Option Addr) (m d : Nat) (g : Nat → Int) : Prop where
  rx : Rd .u64 w x n f
  lx : Lm f n
  cx : n ≤ c ∧ c ≤ 9223372036854775807
  nx : x = none → n = 0 ∧ c = 0
  ry : Rd .u64 w y m g
  ly : Lm g m
  cy : m ≤ d ∧ d ≤ 9223372036854775807
  ny : y = none → m = 0 ∧ d = 0
theorem Rw.below {w w' x n c f y m d g} (h : Rw w x n c f y m d g) (hb : Below w.heap.size w w') : Rw w' x n c f y m d g := ⟨h.rx.below hb (Nat.le_refl _), h.lx, h.cx, h.nx, h.ry.below hb (Nat.le_refl _), h.ly, h.cy, h.ny⟩
theorem Rw.alloc {w x n c f y m d g} (h : Rw w x n c f y m d g) (o : Obj) : Rw (w.alloc o) x n c f y m d g := h.below (below_alloc (Below.refl _ _) o)
/-- In form: sign, limbs, and nothing in common. -/
def rfB (s : Bool) (f : Nat → Int) (n : Nat) (g : Nat → Int) (m : Nat) : Bool := wfB s f n && (fmB g m && (decide (0 < m) && decide ((vf f n).toNat.gcd (vf g m).toNat = 1)))
theorem natAbs_wv {s : Bool} {f : Nat → Int} {n : Nat} (h : Lm f n) : (wv s f n).natAbs = (vf f n).toNat := by
  have h0 := vf_nonneg h
  cases s
  · rw [wv_false]; omega
  · rw [wv_true]; omega
/-- What is in form is a number. -/
theorem Rw.rn {w s x n c f y m d g L} (h : Rw w x n c f y m d g) (hf : rfB s f n g m = true) (hn : n ≤ L) (hm : m ≤ L) : ∃ q, Rn L w s x n c f y m d g q := by
  simp only [rfB, Bool.and_eq_true, decide_eq_true_eq] at hf
  obtain ⟨h1, h2, h3, h4⟩ := hf
  have hp := vf_pos h.ly (fm_of h2) h3
  refine ⟨⟨wv s f n, (vf g m).toNat, by omega, by rw [natAbs_wv h.lx]; exact h4⟩, ⟨h.rx, h.lx, h1, h.cx, h.nx, rfl⟩, ⟨h.ry, h.ly, (wfB_iff _ _ _).2 ⟨fm_of h2, fun h => by cases h⟩, h.cy, h.ny, ?_⟩, hn, hm⟩
  show vf g m = ((vf g m).toNat : Int)
  omega
theorem Rn.rw {L w s x n c f y m d g q} (h : Rn L w s x n c f y m d g q) : Rw w x n c f y m d g := ⟨h.num.rd, h.num.lm, h.num.cap, h.num.nil, h.den.rd, h.den.lm, h.den.cap, h.den.nil⟩
theorem Rn.rf {L w s x n c f y m d g q} (h : Rn L w s x n c f y m d g q) : rfB s f n g m = true := by
  simp only [rfB, Bool.and_eq_true, decide_eq_true_eq]
  have hd := q.den_pos
  refine ⟨h.num.wf, (fmB_iff _ _).2 h.den.fm, h.den.pos (by omega), ?_⟩
  rw [← natAbs_wv (s := s) h.num.lm, h.num.val, h.den.nv]
  exact q.reduced
theorem Rn.inj {L L' w w' s t x n c f y m d g x' n' c' f' y' m' d' g' q r} (h : Rn L w s x n c f y m d g q) (h' : Rn L' w' t x' n' c' f' y' m' d' g' r) : (s = t ∧ Alk n n' f f' ∧ Alk m m' g g') ↔ q = r := by
  constructor
  · rintro ⟨rfl, ⟨rfl, h1⟩, ⟨rfl, h2⟩⟩
    have e1 : vf f n = vf f' n := vf_congr h1
    have e2 : vf g m = vf g' m := vf_congr h2
    refine Rat.ext ?_ ?_
    · rw [← h.num.val, ← h'.num.val]
      cases s
      · rw [wv_false, wv_false, e1]
      · rw [wv_true, wv_true, e1]
    · have := h.den.nv; have := h'.den.nv; omega
  · rintro rfl
    have ha := vf_nonneg h.num.lm; have hb := vf_nonneg h'.num.lm
    have e2 := vf_inj h.den.lm h'.den.lm h.den.fm h'.den.fm (h.den.nv.trans h'.den.nv.symm)
    have v1 := h.num.val; have v2 := h'.num.val
    have p1 := sgn_of_wfB h.num.wf; have p2 := sgn_of_wfB h'.num.wf
    have q1 : 0 < n → 0 < vf f n := vf_pos h.num.lm h.num.fm
    have q2 : 0 < n' → 0 < vf f' n' := vf_pos h'.num.lm h'.num.fm
    cases s <;> cases t
    · rw [wv_false] at v1 v2
      exact ⟨rfl, vf_inj h.num.lm h'.num.lm h.num.fm h'.num.fm (v1.trans v2.symm), e2⟩
    · rw [wv_false] at v1; rw [wv_true] at v2
      have := q2 (p2 rfl)
      omega
    · rw [wv_true] at v1; rw [wv_false] at v2
      have := q1 (p1 rfl)
      omega
    · rw [wv_true] at v1 v2
      exact ⟨rfl, vf_inj h.num.lm h'.num.lm h.num.fm h'.num.fm (by omega), e2⟩
/-- A box of three cells at block B. -/
structure Bx3 (w : World) (B : Nat) (a0 a1 a2 : Value) : Prop where
  z : B < w.heap.size
  x0 : w.cell? ⟨B, 0, none⟩ = some a0
  x1 : w.cell? ⟨B, 1, none⟩ = some a1
  x2 : w.cell? ⟨B, 2, none⟩ = some a2
theorem Bx3.below {w w' B a0 a1 a2} (h : Bx3 w B a0 a1 a2) (hb : Below w.heap.size w w') : Bx3 w' B a0 a1 a2 := ⟨Nat.lt_of_lt_of_le h.z hb.size, kCb hb h.x0, kCb hb h.x1, kCb hb h.x2⟩
theorem Bx3.alloc {w B a0 a1 a2} (h : Bx3 w B a0 a1 a2) (o : Obj) : Bx3 (w.alloc o) B a0 a1 a2 := h.below (below_alloc (Below.refl _ _) o)
theorem Bx3.next {w w' B a0 a1 a2} {o : Obj} (h : Bx3 w B a0 a1 a2) (hb : Below (w.alloc o).heap.size (w.alloc o) w') : Bx3 w' B a0 a1 a2 := (h.alloc o).below hb
theorem bx3_at (w : World) (a0 a1 a2 : Value) (t : TypeId) : Bx3 (w.alloc (.cells #[a0, a1, a2] t)) w.heap.size a0 a1 a2 := ⟨by simp, by simp [go_sem], by simp [go_sem], by simp [go_sem]⟩
theorem bx3_new {w w' : World} {a0 a1 a2 : Value} {t : TypeId} (hb : Below (w.alloc (.cells #[a0, a1, a2] t)).heap.size (w.alloc (.cells #[a0, a1, a2] t)) w') : Bx3 w' w.heap.size a0 a1 a2 := (bx3_at w a0 a1 a2 t).below hb

set_option maxHeartbeats 1000000 in
theorem rForm_c {w : World} {s x n c f y m d g} (h : Rw w x n c f y m d g) (hn : n ≤ 1048576) (hm : m ≤ 1048576) :
    Calls Tryz.prog 41 #[.agg #[.bool s, .slice x n c, .slice y m d]] w fun e w' => e = .returned (.bool (rfB s f n g m)) ∧ Below w.heap.size w w' := by
  have H := hid h
  have hrf : rfB s f n g m = (wfB s f n && (fmB g m && (decide (0 < m) && decide ((vf f n).toNat.gcd (vf g m).toNat = 1)))) := rfl
  rw [hrf]
  clear h hrf
  go_enter Tryz.func41, Tryz.ntmps41
  go_wp2_with fail
  refine (numer_c s x y n c m d _).mono ?_
  rintro e w1 ⟨rfl, hb⟩
  have B1 := hid (bx3_new hb); have HW1 : Hid (Below w.heap.size w w1) := (below_alloc (Below.refl w.heap.size w) _).trans (hb.mono (by simp))
  clear hb
  obtain ⟨z, x0, x1, x2⟩ := B1.out
  go_wp2_with fail
  refine (wForm_c s x n c f _ (by omega) (H.out.rx.below HW1.out (Nat.le_refl _))).mono ?_
  rintro e w2 ⟨rfl, hb⟩
  have B2 := hid (B1.out.below hb); have HW2 := hid (HW1.out.trans (hb.mono HW1.out.size))
  clear hb B1 z x0 x1 x2 HW1
  obtain ⟨z, x0, x1, x2⟩ := B2.out
  cases h1 : wfB s f n
  · have E : Hid ((wfB s f n && (fmB g m && (decide (0 < m) && decide ((vf f n).toNat.gcd (vf g m).toNat = 1)))) = false) := hid (by rw [h1]; rfl)
    go_wp2
    go_ret
    exact ⟨by rw [E.out]; rfl, HW2.out⟩
  have F1 := hid h1
  clear h1
  have c2 := form_c y m d g w2 (by omega) (H.out.ry.below HW2.out (Nat.le_refl _))
  go_wp2_with fail
  refine c2.mono ?_
  rintro e w3 ⟨rfl, rfl⟩
  clear c2
  cases h2 : fmB g m
  · have E : Hid ((wfB s f n && (fmB g m && (decide (0 < m) && decide ((vf f n).toNat.gcd (vf g m).toNat = 1)))) = false) := hid (by rw [F1.out, h2]; rfl)
    go_wp2
    go_ret
    exact ⟨by rw [E.out]; rfl, HW2.out⟩
  by_cases h3 : 0 < m
  · have h3' : ((m : Int) == 0) = false := by simp; omega
    have hd3 : decide (0 < m) = true := by simp; omega
    have E : Hid ((wfB s f n && (fmB g m && (decide (0 < m) && decide ((vf f n).toNat.gcd (vf g m).toNat = 1)))) = decide ((((vf f n).toNat.gcd (vf g m).toNat : Nat) : Int) = 1)) := hid (by
      rw [F1.out, h2, hd3, Bool.true_and, Bool.true_and, Bool.true_and]
      by_cases h : (vf f n).toNat.gcd (vf g m).toNat = 1
      · simp [h]
      · have : ¬ ((((vf f n).toNat.gcd (vf g m).toNat : Nat) : Int) = 1) := by omega
        simp [h, this])
    have hh := (H.out.below HW2.out)
    have W1 : Wn w3 false x n c f ((vf f n).toNat : Nat) := ⟨hh.rx, hh.lx, (wfB_iff _ _ _).2 ⟨fm_of_wfB F1.out, fun h => by cases h⟩, hh.cx, hh.nx, by have := vf_nonneg hh.lx; show vf f n = _; omega⟩
    have W2 : Wn w3 false y m d g ((vf g m).toNat : Nat) := ⟨hh.ry, hh.ly, (wfB_iff _ _ _).2 ⟨fm_of h2, fun h => by cases h⟩, hh.cy, hh.ny, by have := vf_nonneg hh.ly; show vf g m = _; omega⟩
    have C3 := hid (ratGcd_c W1 W2 (by omega) (by omega))
    clear hh W1 W2 hd3 h2 h3
    go_wp2_with fail
    refine C3.out.mono ?_
    rintro e w4 ⟨zg, kg, cg, fg, rfl, hb, hg⟩
    have C4 := hid (isOne_c hg)
    clear hg
    go_wp2_with fail
    refine C4.out.mono ?_
    rintro e w5 ⟨rfl, rfl⟩
    go_wp2
    go_ret
    exact ⟨by rw [E.out]; rfl, HW2.out.trans (hb.mono HW2.out.size)⟩
  · have h3' : m = 0 := by omega
    have E : Hid ((wfB s f n && (fmB g m && (decide (0 < m) && decide ((vf f n).toNat.gcd (vf g m).toNat = 1)))) = false) := hid (by simp [h3'])
    subst h3'
    go_wp2
    go_ret
    exact ⟨by rw [E.out]; rfl, HW2.out⟩
theorem rForm_n {L w s x n c f y m d g q} (h : Rn L w s x n c f y m d g q) (hL : L ≤ 1048576) :
    Calls Tryz.prog 41 #[.agg #[.bool s, .slice x n c, .slice y m d]] w fun e w' => e = .returned (.bool true) ∧ Below w.heap.size w w' := by
  have h1 := h.ln; have h2 := h.ld
  have := rForm_c (s := s) h.rw (by omega) (by omega)
  rw [h.rf] at this
  exact this

set_option maxRecDepth 100000 in
set_option maxHeartbeats 4000000 in
theorem rAdd_n {L : Nat} {w : World} {sa : Bool} {xa : Option Addr} {na ca : Nat} {fa : Nat → Int} {ya : Option Addr} {ma da : Nat} {ga : Nat → Int} {a : Rat} {sb : Bool} {xb : Option Addr} {nb cb : Nat} {fb : Nat → Int} {yb : Option Addr} {mb db : Nat} {gb : Nat → Int} {b : Rat} (ha : Rn L w sa xa na ca fa ya ma da ga a) (hb : Rn L w sb xb nb cb fb yb mb db gb b) (hL : L ≤ 200000) :
    Calls Tryz.prog 85 #[.agg #[.bool sa, .slice xa na ca, .slice ya ma da], .agg #[.bool sb, .slice xb nb cb, .slice yb mb db]] w fun e w' => RatTup (2 * L + 1) w w' e (a + b) := by
  have HA0 := hid ha; have HB0 := hid hb
  clear ha hb
  go_enter Tryz.func85, Tryz.ntmps85
  go_wp2_with fail
  refine (rForm_n (((HA0.out.alloc _).alloc _).alloc _) (by omega)).mono ?_
  rintro e w1 ⟨rfl, hbel⟩
  obtain ⟨⟨hz, x0, x1, x2, y0, y1, y2, z0, z1, z2, zf⟩, hw⟩ := three_new hbel
  have T1 : Hid (Three w.heap.size w1 _ _ _ _ _ _ _ _ _) := ⟨hz, x0, x1, x2, y0, y1, y2, z0, z1, z2, zf⟩
  have HW1 := hid hw; have HA1 := hid (HA0.out.below hw); have HB1 := hid (HB0.out.below hw)
  clear hbel hw HA0 HB0
  go_wp2_with fail
  refine (rForm_n HB1.out (by omega)).mono ?_
  rintro e w2 ⟨rfl, hb⟩
  have HA2 := hid (HA1.out.below hb); have HB2 := hid (HB1.out.below hb); have T2 := hid (T1.out.below hb); have HW2 := hid (HW1.out.trans (hb.mono HW1.out.size))
  clear HA1 HB1 T1 HW1 hb
  clear hz x0 x1 x2 y0 y1 y2 z0 z1 z2 zf
  obtain ⟨hz, x0, x1, x2, y0, y1, y2, z0, z1, z2, zf⟩ := T2.out
  have hza : w.heap.size < w2.heap.size := by omega
  have hzb : w.heap.size + 1 < w2.heap.size := by omega
  go_wp2_with fail
  refine (ratadd_c HA2.out HB2.out hL).mono ?_
  rintro e w3 ⟨rs, zn, kn, cn, fn, zd, kd, cd, fd, rfl, hb, hr⟩
  have HR := hid hr
  clear hr
  have T3 := hid (T2.out.below hb); have HW3 := hid (HW2.out.trans (hb.mono HW2.out.size))
  clear T2 HW2 hb
  clear hza hzb hz x0 x1 x2 y0 y1 y2 z0 z1 z2 zf
  obtain ⟨hz, x0, x1, x2, y0, y1, y2, z0, z1, z2, zf⟩ := T3.out
  have hza : w.heap.size < w3.heap.size := by omega
  have hzb : w.heap.size + 1 < w3.heap.size := by omega
  go_wp2
  refine bodyPost_ret (v := .tuple #[.agg #[.bool rs, .slice zn kn cn, .slice zd kd cd], .int .i64 0]) (by simp [results, Tryz.results85, go_sem, z0, z1, z2]) rfl ⟨rs, zn, kn, cn, fn, zd, kd, cd, fd, rfl, below_store HW3.out, ⟨?_, ?_, HR.out.ln, HR.out.ld⟩⟩
  · exact T3.out.store HR.out.num
  · exact T3.out.store HR.out.den

set_option maxRecDepth 100000 in
set_option maxHeartbeats 4000000 in
theorem rMul_n {L : Nat} {w : World} {sa : Bool} {xa : Option Addr} {na ca : Nat} {fa : Nat → Int} {ya : Option Addr} {ma da : Nat} {ga : Nat → Int} {a : Rat} {sb : Bool} {xb : Option Addr} {nb cb : Nat} {fb : Nat → Int} {yb : Option Addr} {mb db : Nat} {gb : Nat → Int} {b : Rat} (ha : Rn L w sa xa na ca fa ya ma da ga a) (hb : Rn L w sb xb nb cb fb yb mb db gb b) (hL : L ≤ 200000) :
    Calls Tryz.prog 86 #[.agg #[.bool sa, .slice xa na ca, .slice ya ma da], .agg #[.bool sb, .slice xb nb cb, .slice yb mb db]] w fun e w' => RatTup (2 * L + 1) w w' e (a * b) := by
  have HA0 := hid ha; have HB0 := hid hb
  clear ha hb
  go_enter Tryz.func86, Tryz.ntmps86
  go_wp2_with fail
  refine (rForm_n (((HA0.out.alloc _).alloc _).alloc _) (by omega)).mono ?_
  rintro e w1 ⟨rfl, hbel⟩
  obtain ⟨⟨hz, x0, x1, x2, y0, y1, y2, z0, z1, z2, zf⟩, hw⟩ := three_new hbel
  have T1 : Hid (Three w.heap.size w1 _ _ _ _ _ _ _ _ _) := ⟨hz, x0, x1, x2, y0, y1, y2, z0, z1, z2, zf⟩
  have HW1 := hid hw; have HA1 := hid (HA0.out.below hw); have HB1 := hid (HB0.out.below hw)
  clear hbel hw HA0 HB0
  go_wp2_with fail
  refine (rForm_n HB1.out (by omega)).mono ?_
  rintro e w2 ⟨rfl, hb⟩
  have HA2 := hid (HA1.out.below hb); have HB2 := hid (HB1.out.below hb); have T2 := hid (T1.out.below hb); have HW2 := hid (HW1.out.trans (hb.mono HW1.out.size))
  clear HA1 HB1 T1 HW1 hb
  clear hz x0 x1 x2 y0 y1 y2 z0 z1 z2 zf
  obtain ⟨hz, x0, x1, x2, y0, y1, y2, z0, z1, z2, zf⟩ := T2.out
  have hza : w.heap.size < w2.heap.size := by omega
  have hzb : w.heap.size + 1 < w2.heap.size := by omega
  go_wp2_with fail
  refine (ratmul_c HA2.out HB2.out hL).mono ?_
  rintro e w3 ⟨rs, zn, kn, cn, fn, zd, kd, cd, fd, rfl, hb, hr⟩
  have HR := hid hr
  clear hr
  have T3 := hid (T2.out.below hb); have HW3 := hid (HW2.out.trans (hb.mono HW2.out.size))
  clear T2 HW2 hb
  clear hza hzb hz x0 x1 x2 y0 y1 y2 z0 z1 z2 zf
  obtain ⟨hz, x0, x1, x2, y0, y1, y2, z0, z1, z2, zf⟩ := T3.out
  have hza : w.heap.size < w3.heap.size := by omega
  have hzb : w.heap.size + 1 < w3.heap.size := by omega
  go_wp2
  refine bodyPost_ret (v := .tuple #[.agg #[.bool rs, .slice zn kn cn, .slice zd kd cd], .int .i64 0]) (by simp [results, Tryz.results86, go_sem, z0, z1, z2]) rfl ⟨rs, zn, kn, cn, fn, zd, kd, cd, fd, rfl, below_store HW3.out, ⟨?_, ?_, HR.out.ln, HR.out.ld⟩⟩
  · exact T3.out.store HR.out.num
  · exact T3.out.store HR.out.den

theorem Rn.negate {L w s x n c f y m d g q} {r : Bool} (h : Rn L w s x n c f y m d g q) (hr : r = (!s && decide (0 < n))) : Rn L w r x n c f y m d g (-q) := by
  refine ⟨?_, h.den, h.ln, h.ld⟩
  have h1 := h.num.mag.resign (s := !s) hr
  have h2 := h.num.sgn
  show Wn w r x n c f (-q.num)
  have : -q.num = sg (!s) q.num.natAbs := by
    generalize q.num.natAbs = A at h2
    rw [h2]
    cases s
    · rfl
    · show - -(A : Int) = A; omega
  rw [this]
  exact h1
theorem Rn.invert {L w s x n c f y m d g q} {r : Bool} (h : Rn L w s x n c f y m d g q) (h0 : 0 < n) (hr : r = (s && decide (0 < m))) : Rn L w r y m d g x n c f q⁻¹ := by
  have h2 := h.num.sgn
  have hm : 0 < m := h.den.pos (by have := q.den_pos; omega)
  have hq : 0 < q.num.natAbs := by
    have h3 := vf_pos h.num.lm h.num.fm h0
    have h4 := h.num.mag.nv
    omega
  obtain ⟨e1, e2⟩ := rinv h2 hq
  refine ⟨?_, ?_, h.ld, h.ln⟩
  · rw [e1]; exact h.den.resign hr
  · rw [e2]; exact h.num.mag

end Go.Proofs.YthofcgpghbaccaaGreat
namespace Go.Proofs.YthofcgpghbaccaaGreat
open Go.RowKit

/-- A number in memory: its sign, and where the limbs of numerator and denominator lie. -/
structure Nm where
  s : Bool
  x : Option Addr
  n : Nat
  c : Nat
  f : Nat → Int
  y : Option Addr
  m : Nat
  d : Nat
  g : Nat → Int
/-- It can be read, whatever it is, and is not too long. -/
def NmR (w : World) (t : Nm) : Prop := Rw w t.x t.n t.c t.f t.y t.m t.d t.g ∧ t.n ≤ 65536 ∧ t.m ≤ 65536
def nfB (t : Nm) : Bool := rfB t.s t.f t.n t.g t.m
theorem NmR.below {w w' t} (h : NmR w t) (hb : Below w.heap.size w w') : NmR w' t := ⟨h.1.below hb, h.2⟩
/-- Four cells from place o of block b on. -/
structure C4 (w : World) (b o : Nat) (a0 a1 a2 a3 : Value) : Prop where
  x0 : w.cell? ⟨b, o, none⟩ = some a0
  x1 : w.cell? ⟨b, o + 1, none⟩ = some a1
  x2 : w.cell? ⟨b, o + 2, none⟩ = some a2
  x3 : w.cell? ⟨b, o + 3, none⟩ = some a3
theorem C4.below {w w' b o a0 a1 a2 a3} (h : C4 w b o a0 a1 a2 a3) (hb : Below w.heap.size w w') : C4 w' b o a0 a1 a2 a3 := ⟨kCb hb h.x0, kCb hb h.x1, kCb hb h.x2, kCb hb h.x3⟩
/-- A box of four cells, as it reads behind a call. -/
theorem box4 {w w1 : World} {a0 a1 a2 a3 : Value} {t : TypeId} (hb : Below (w.alloc (.cells #[a0, a1, a2, a3] t)).heap.size (w.alloc (.cells #[a0, a1, a2, a3] t)) w1) : w.heap.size < w1.heap.size ∧ w1.cell? ⟨w.heap.size, 0, none⟩ = some a0 ∧ w1.cell? ⟨w.heap.size, 1, none⟩ = some a1 ∧ w1.cell? ⟨w.heap.size, 2, none⟩ = some a2 ∧ w1.cell? ⟨w.heap.size, 3, none⟩ = some a3 ∧ Below w.heap.size w w1 := by
  have hz := hb.size
  simp at hz
  exact ⟨by omega, kCb hb (by simp [go_sem]), kCb hb (by simp [go_sem]), kCb hb (by simp [go_sem]), kCb hb (by simp [go_sem]), (below_alloc (Below.refl _ w) _).trans (hb.mono (by simp))⟩
/-- A list of k terms that can be read, whatever they are. -/
def Tl (w : World) (ao : Option Addr) (k : Nat) (col : Nat → Int) (T : Nat → Nm) : Prop :=
  ∀ j, j < k → ∃ b o, ao = some ⟨b, o, none⟩ ∧ C4 w b (o + j * 4) (.int .i64 (col j)) (.bool (T j).s) (.slice (T j).x (T j).n (T j).c) (.slice (T j).y (T j).m (T j).d) ∧ NmR w (T j)
theorem Tl.below {w w' ao k col T} (h : Tl w ao k col T) (hb : Below w.heap.size w w') : Tl w' ao k col T := fun j hj => by
  obtain ⟨b, o, e, h1, h2⟩ := h j hj
  exact ⟨b, o, e, h1.below hb, h2.below hb⟩
theorem Tl.drewN {w ao k col T} (h : Tl w ao k col T) (q : Nat) : Tl (w.drewN q) ao k col T := h.below (below_drewN (Below.refl _ _) q)
/-- In form from term i on, behind the column 'last': columns rise, no nought. -/
def tfr (col : Nat → Int) (T : Nat → Nm) : Nat → Nat → Int → Bool
  | 0, _, _ => true
  | r + 1, i, last => decide (last < col i) && (nfB (T i) && (decide (0 < (T i).n) && tfr col T r (i + 1) (col i)))
def tfB (k : Nat) (col : Nat → Int) (T : Nat → Nm) : Bool := tfr col T k 0 (-1)

theorem isZero_c (s : Bool) (x : Option Addr) (n c : Nat) (y : Option Addr) (m d : Nat) (w : World) (hn : n ≤ 9223372036854775807) :
    Calls Tryz.prog 49 #[.agg #[.bool s, .slice x n c, .slice y m d]] w fun e w' => e = .returned (.bool (decide (n = 0))) ∧ Below w.heap.size w w' := by
  have hd : ((n : Int) == 0) = decide (n = 0) := by
    by_cases h : n = 0
    · subst h; rfl
    · have : ((n : Int) == 0) = false := by simp; omega
      rw [this]; simp [h]
  go_enter Tryz.func49, Tryz.ntmps49
  go_wp2
  go_ret
  refine ⟨?_, below_alloc (Below.refl _ _) _⟩
  first
    | rfl
    | (simp [hd]; done)
    | (rw [hd])

set_option maxRecDepth 100000 in
set_option maxHeartbeats 4000000 in
theorem vForm_c {w : World} {ao : Option Addr} {k cap : Nat} {col : Nat → Int} {T : Nat → Nm} (h : Tl w ao k col T) (hk : k ≤ 1048576) :
    Calls Tryz.prog 16 #[.slice ao k cap] w fun e w' => e = .returned (.bool (tfB k col T)) ∧ Below w.heap.size w w' := by
  have H := hid h
  clear h
  go_enter Tryz.func16, Tryz.ntmps16
  go_wp2_with fail
  go_loopw [3, 8] (fun l t wr => ∃ (i : Nat) (last : Int), i ≤ k ∧ t = .int .i64 i ∧ l = .int .i64 last ∧ Hid (Below w.heap.size w wr) ∧ Hid (tfB k col T = tfr col T (k - i) i last)) (fun _ t _ => k - (intOf t).toNat)
  case atStart => exact ⟨0, -1, by omega, rfl, rfl, Below.refl _ _, rfl⟩
  case round =>
    obtain ⟨i, last, hi, rfl, rfl, HB, HT⟩ := hrel
    by_cases hlt : i < k
    · obtain ⟨b, o, rfl, hc, hn, hn1, hn2⟩ := (H.out.below HB.out) i hlt
      obtain ⟨r, hr⟩ : ∃ r, k - i = r + 1 := ⟨k - i - 1, by omega⟩
      have hT : tfB k col T = (decide (last < col i) && (nfB (T i) && (decide (0 < (T i).n) && tfr col T r (i + 1) (col i)))) := by rw [HT.out, hr]; rfl
      have hr2 : k - (i + 1) = r := by omega
      obtain ⟨⟨s, x, n, c, f, y, m, d, g⟩, hTi⟩ : ∃ t, T i = t := ⟨_, rfl⟩
      rw [hTi] at hc hn hn1 hn2 hT
      obtain ⟨z, hz⟩ : ∃ z, col i = z := ⟨_, rfl⟩
      rw [hz] at hc hT
      obtain ⟨x0, x1, x2, x3⟩ := hc
      replace x0 : wr.cell? ⟨b, o + i * 4, none⟩ = some (.int .i64 z) := x0
      replace x1 : wr.cell? ⟨b, o + i * 4 + 1, none⟩ = some (.bool s) := x1
      replace x2 : wr.cell? ⟨b, o + i * 4 + 2, none⟩ = some (.slice x n c) := x2
      replace x3 : wr.cell? ⟨b, o + i * 4 + 3, none⟩ = some (.slice y m d) := x3
      replace hn : Rw wr x n c f y m d g := hn
      replace hn1 : n ≤ 65536 := hn1
      replace hn2 : m ≤ 65536 := hn2
      have hblk : Below wr.heap.size wr (wr.alloc (.cells #[.int .i64 z, .bool s, .slice x n c, .slice y m d] 69)) := below_alloc (Below.refl _ _) _
      have CF := hid (rForm_c (s := s) (hn.below hblk) (by omega) (by omega))
      have HTi := hid hT; have HZ := hid hz; have HR2 := hid hr2
      have i1 : ((i : Nat) : Int) < ((k : Nat) : Int) := by omega
      clear hT hz hr2 hTi hr hn hblk
      by_cases hl : z ≤ last
      · have hd : decide (last < z) = false := by simp; omega
        have HD := hid hd
        clear hd
        go_wp2
        go_ret
        refine ⟨?_, ?_⟩
        · rw [HTi.out, HD.out]; rfl
        · exact below_alloc HB.out _
      · have hd : decide (last < z) = true := by simp; omega
        have HD := hid hd
        clear hd
        cases hf : rfB s f n g m
        · have CF2 := CF
          rw [hf] at CF2
          have HNF : Hid (nfB ⟨s, x, n, c, f, y, m, d, g⟩ = false) := hf
          clear CF hf
          go_wp2_with fail
          refine CF2.out.mono ?_
          rintro e w1 ⟨rfl, hb1⟩
          obtain ⟨_, _, _, _, _, hb2⟩ := box4 hb1
          go_wp2
          go_ret
          refine ⟨?_, HB.out.trans (hb2.mono HB.out.size)⟩
          rw [HTi.out, HD.out, HNF.out]; rfl
        · have CF2 := CF
          rw [hf] at CF2
          have HNF : Hid (nfB ⟨s, x, n, c, f, y, m, d, g⟩ = true) := hf
          clear CF hf
          go_wp2_with fail
          refine CF2.out.mono ?_
          rintro e w1 ⟨rfl, hb1⟩
          obtain ⟨z0, y0, y1, y2, y3, hb2⟩ := box4 hb1
          have HB1 := hid (HB.out.trans (hb2.mono HB.out.size))
          clear hb1 hb2
          go_wp2_with fail
          refine (isZero_c s x n c y m d _ (by omega)).mono ?_
          rintro e w2 ⟨rfl, hb3⟩
          have v0 := kCb hb3 y0
          have HB2 := hid (HB1.out.trans (hb3.mono HB1.out.size))
          clear hb3
          by_cases hn0 : n = 0
          · subst hn0
            go_wp2
            go_ret
            refine ⟨?_, HB2.out⟩
            rw [HTi.out, HD.out, HNF.out]; rfl
          · have hnd : decide (n = 0) = false := by simp [hn0]
            rw [hnd]
            have hnp : decide (0 < n) = true := by simp; omega
            have HNP := hid hnp
            clear hnd hnp
            go_wp2
            go_roundw
            case rel =>
              refine ⟨i + 1, z, by omega, by go_num, rfl, HB2.out, ?_⟩
              show _ = _
              rw [HTi.out, HD.out, HNF.out, HR2.out]
              simp only [HNP.out, Bool.true_and]
            case measure => simp [intOf]; omega
    · have e1 : i = k := by omega
      have HTe : Hid (tfB k col T = true) := by
        show _ = _
        rw [HT.out, e1, Nat.sub_self]; rfl
      have i2 : ¬ (((i : Nat) : Int) < ((k : Nat) : Int)) := by omega
      clear e1 HT
      go_wp2
      go_ret
      refine ⟨?_, HB.out⟩
      rw [HTe.out]; rfl
end Go.Proofs.YthofcgpghbaccaaGreat
namespace Go.Proofs.YthofcgpghbaccaaGreat
open Go.RowKit

/-- What the reference's Read leaves. -/
def ZRead (w w' : World) (L : Nat) (b : Nat → Nat) (t : Bool) (x : Option Addr) (m : Nat) (d : Nat → Int) (ok : Bool) : Prop :=
  Below w.heap.size w w' ∧ Rd .u64 w' x m d ∧ m ≤ L ∧ Dg d m ∧ Fm d m ∧ (∀ a, x = some a → w.heap.size ≤ a.block) ∧
  (ok = true ↔ (0 < L ∧ b 0 = 45 ∧ IsNum (bsh b 1) (L - 1) ∧ 0 < dn (bsh b 1) (L - 1)) ∨ (¬ (0 < L ∧ b 0 = 45) ∧ IsNum b L)) ∧
  (ok = true → (t = true ∧ 0 < L ∧ b 0 = 45 ∧ 0 < m ∧ vd d m = (dn (bsh b 1) (L - 1) : Nat)) ∨ (t = false ∧ ¬ (0 < L ∧ b 0 = 45) ∧ vd d m = (dn b L : Nat)))

end Go.Proofs.YthofcgpghbaccaaGreat
namespace Go.Proofs.YthofcgpghbaccaaGreat
open Go.RowKit

theorem mul_digit {Q Q' : Nat → Int} {i j : Nat} {C x y t : Int} {S H : Int} (HV : vd (sh Q i) j + C * pd j = S + x * H) (hk : ∀ k, k < j → Q' (i + k) = Q (i + k)) (hq : Q' (i + j) = t % 4294967296) (ht : t = C + (Q (i + j) + x * y)) :
    vd (sh Q' i) (j + 1) + (t / 4294967296) * pd (j + 1) = (S + Q (i + j) * pd j) + x * (H + y * pd j) := by
  rw [vd_succ, vd_congr (f := sh Q' i) (g := sh Q i) (n := j) (fun k h => hk k h), pd_succ]
  have e1 : sh Q' i j = t % 4294967296 := hq
  rw [e1]
  have e2 : t % 4294967296 = t - 4294967296 * (t / 4294967296) := by omega
  rw [e2, ht]
  generalize (C + (Q (i + j) + x * y)) / 4294967296 = u
  grind
theorem mul_row {Q0 Q Q' : Nat → Int} {i m : Nat} {C x F H : Int} (h0 : vd Q0 (i + m) = F * H) (HV : vd (sh Q i) m + C * pd m = vd (sh Q0 i) m + x * H) (he : ∀ k, k < i → Q k = Q0 k) (hk : ∀ k, k < i + m → Q' k = Q k) (hc : Q' (i + m) = C) :
    vd Q' (i + m + 1) = (F + x * pd i) * H := by
  rw [vd_succ, hc, vd_congr (f := Q') (g := Q) (n := i + m) hk, vd_split, vd_congr (f := Q) (g := Q0) (n := i) he, pd_add]
  rw [vd_split] at h0
  grind

set_option maxRecDepth 100000 in
set_option maxHeartbeats 2000000 in
theorem rmulD_c (ao bo : Option Addr) (n m ca cb : Nat) (f h : Nat → Int) (w : World) (hn : n ≤ 262144) (hm : m ≤ 262144) (hr : Rd .u64 w ao n f) (hs : Rd .u64 w bo m h) (hf : Dg f n) (hh : Dg h m) :
    Calls Tryz.prog 70 #[.slice ao n ca, .slice bo m cb] w fun e w' => ∃ a1 k c1 q, e = .returned (.slice a1 k c1) ∧ Below w.heap.size w w' ∧ k ≤ n + m ∧ Rd .u64 w' a1 k q ∧ Dg q k ∧ Fm q k ∧ vd q k = vd f n * vd h m := by
  have HR := hid hr; have HS := hid hs; have HF := hid hf; have HH := hid hh
  clear hr hs hf hh
  go_enter Tryz.func70, Tryz.ntmps70
  go_wp2_with (at_make; refine wpList_make_blk .u64 w rfl (.tmp 15) (.tmp 15) 23 rfl 74 8 Tryz.underlying23 Tryz.infoU64 .i64 .i64 ((n : Int) + (m : Int)) ((n : Int) + (m : Int)) (n + m) rfl rfl (by omega) (by omega) (by omega) (by unfold maxLen; omega) ?_; intro wa hba hbela)
  go_loopw [19] (fun t wr => ∃ (i : Nat) (Q : Nat → Int), i ≤ n ∧ t = .int .i64 i ∧ Below w.heap.size w wr ∧ Blk .u64 74 wr w.heap.size (n + m) Q ∧ Hid (Dg Q (n + m)) ∧ Hid (∀ k, i + m ≤ k → k < n + m → Q k = 0) ∧ Hid (vd Q (i + m) = vd f i * vd h m)) (fun t _ => n - (intOf t).toNat)
  case atStart => exact ⟨0, fun _ => 0, by omega, rfl, hbela, hba, fun j _ => ⟨Int.le_refl 0, show (0 : Int) < 4294967296 by decide⟩, fun _ _ _ => rfl, hid (by rw [vd_zero (fun _ _ => rfl)]; simp [vd])⟩
  case round =>
    clear hba hbela
    obtain ⟨i, Q0, hi, rfl, hbel, hbl, HL, HZ, HV⟩ := hrel
    by_cases hlt : i < n
    · have hr := HR.out
      obtain ⟨b, o, rfl⟩ := hr.at (by omega)
      obtain ⟨x, hx⟩ : ∃ x, f i = x := ⟨_, rfl⟩
      have hcell : wr.cell? ⟨b, o + i, none⟩ = some (.int .u64 x) := by rw [← hx]; exact (hr.below hbel (Nat.le_refl _)).cell (by omega)
      obtain ⟨x0, x1⟩ := HF.out i (by omega)
      rw [hx] at x0 x1
      have HX := hid hx; have HBl := hid hbl; have HBe := hid hbel
      clear hx hr
      go_wp2
      go_loopw [8, 26] (fun c t wr => ∃ (j : Nat) (C : Int) (Q : Nat → Int), j ≤ m ∧ t = .int .i64 j ∧ c = .int .u64 C ∧ 0 ≤ C ∧ C < 4294967296 ∧ Below w.heap.size w wr ∧ Blk .u64 74 wr w.heap.size (n + m) Q ∧ Hid (Dg Q (n + m)) ∧ Hid (∀ k, k < i ∨ i + j ≤ k → Q k = Q0 k) ∧ Hid (vd (sh Q i) j + C * pd j = vd (sh Q0 i) j + x * vd h j)) (fun _ t _ => m - (intOf t).toNat)
      case atStart => exact ⟨0, 0, Q0, by omega, rfl, rfl, by omega, by omega, HBe.out, HBl.out, HL.out, fun _ _ => rfl, hid (by simp [vd])⟩
      case round =>
        clear hbel hbl hcell
        obtain ⟨j, C, Q, hj, rfl, rfl, C0, C1, hbel, hbl, HD, HE, HW⟩ := hrel
        by_cases hjm : j < m
        · have hs := HS.out
          obtain ⟨b', o', rfl⟩ := hs.at (by omega)
          obtain ⟨y, hy⟩ : ∃ y, h j = y := ⟨_, rfl⟩
          obtain ⟨z, hz⟩ : ∃ z, Q (i + j) = z := ⟨_, rfl⟩
          rename_i wq
          have hcy := (hs.below hbel (Nat.le_refl _)).cell (j := j) (by omega)
          rw [hy] at hcy
          have hcz := hbl.cell (j := i + j) (by omega)
          rw [hz] at hcz
          have hfz := hbl.frozen (i + j)
          obtain ⟨y0, y1⟩ := HH.out j (by omega)
          rw [hy] at y0 y1
          obtain ⟨z0, z1⟩ := HD.out (i + j) (by omega)
          rw [hz] at z0 z1
          have hxy0 : 0 ≤ x * y := Int.mul_nonneg x0 y0
          have hxy1 : x * y ≤ 4294967295 * 4294967295 := Int.mul_le_mul (by omega) (by omega) y0 (by omega)
          obtain ⟨P, hP⟩ : ∃ P, x * y = P := ⟨_, rfl⟩
          rw [hP] at hxy0 hxy1
          obtain ⟨t, ht⟩ : ∃ t, C + (z + P) = t := ⟨_, rfl⟩
          have t0 : 0 ≤ t := by omega
          have t1 : t < 18446744073709551616 := by omega
          have ht2 : t / 4294967296 < 4294967296 := by omega
          have hst := mul_digit (Q' := upd Q (i + j) (t % 4294967296)) (t := t) (y := y) HW.out (fun k hk => upd_other _ _ _ _ (by omega)) (upd_same _ _ _) (by rw [hz, hP, ht])
          have HSt := hid hst; have HY := hid hy; have HZz := hid hz
          clear hst hy hz hs
          go_wp2
          go_roundw
          case rel =>
            refine ⟨j + 1, t / 4294967296, upd Q (i + j) (t % 4294967296), by omega, by go_num, ?_, by omega, ht2, below_only hbel ((Only.refl _ _).setCell _ _ _) (Nat.le_refl _) hbel.size, hbl.set _ _, HD.out.upd ⟨by omega, by omega⟩, fun k hk => ?_, ?_⟩
            · first | rfl | (rw [ht]) | go_num
            · rw [upd_other _ _ _ _ (by omega)]; exact HE.out k (by omega)
            · have e1 : vd (sh Q0 i) (j + 1) = vd (sh Q0 i) j + Q (i + j) * pd j := by rw [vd_succ, HE.out (i + j) (by omega)]; rfl
              have e2 : vd h (j + 1) = vd h j + y * pd j := by rw [vd_succ, HY.out]
              show vd _ _ + _ = _
              rw [e1, e2]
              exact HSt.out
          case measure => simp [intOf]; omega
        · have hjm' : j = m := by omega
          subst hjm'
          have hcm := hbl.cell (j := i + j) (by omega)
          have hfz := hbl.frozen (i + j)
          have hrow := mul_row (Q' := upd Q (i + j) C) HV.out HW.out (fun k hk => HE.out k (.inl hk)) (fun k hk => upd_other _ _ _ _ (by omega)) (upd_same _ _ _)
          have HRow := hid hrow
          clear hrow
          go_wp2
          go_roundw
          case rel =>
            refine ⟨i + 1, upd Q (i + j) C, by omega, by go_num, below_only hbel ((Only.refl _ _).setCell _ _ _) (Nat.le_refl _) hbel.size, hbl.set _ _, HD.out.upd ⟨C0, C1⟩, fun k h1 h2 => ?_, ?_⟩
            · rw [upd_other _ _ _ _ (by omega), HE.out k (.inr (by omega))]; exact HZ.out k (by omega) h2
            · show vd _ _ = _
              rw [show i + 1 + j = i + j + 1 by omega, vd_succ f i, HX.out]
              exact HRow.out
          case measure => simp [intOf]; omega
    · have hin : i = n := by omega
      subst hin
      go_wp2_with fail
      refine (low_c (some ⟨w.heap.size, 0, none⟩) (i + m) (i + m) Q0 wr (Nat.le_refl _) (by omega) (hbl.rd0 (Nat.le_refl _)) (fun h => by cases h)).mono ?_
      rintro e w2 ⟨rfl, k1, hk1, hz, hfm, rfl⟩
      have HZ2 := hid hz; have HFM := hid hfm
      clear hz hfm
      go_wp2
      go_ret
      refine ⟨_, k1, _, Q0, rfl, hbel, hk1, (hbl.rd0 (Nat.le_refl _)).take hk1, HL.out.mono hk1, HFM.out, ?_⟩
      rw [trim_vald hk1 HZ2.out]; exact HV.out
end Go.Proofs.YthofcgpghbaccaaGreat
namespace Go.Proofs.YthofcgpghbaccaaGreat
open Go.RowKit

/-- Digits in form that can be read, with their number. -/
structure Dn (w : World) (x : Option Addr) (n : Nat) (d : Nat → Int) (V : Nat) : Prop where
  rd : Rd .u64 w x n d
  dg : Dg d n
  fm : Fm d n
  val : vd d n = V
theorem Dn.below {w w' x n d V} (h : Dn w x n d V) (hb : Below w.heap.size w w') : Dn w' x n d V := ⟨h.rd.below hb (Nat.le_refl _), h.dg, h.fm, h.val⟩
theorem Dn.alloc {w x n d V} (h : Dn w x n d V) (o : Obj) : Dn (w.alloc o) x n d V := ⟨h.rd.below ((Below.refl _ _).alloc (Nat.le_refl _) o) (Nat.le_refl _), h.dg, h.fm, h.val⟩
theorem Dn.next {w w' x n d V} {o : Obj} (h : Dn w x n d V) (hb : Below (w.alloc o).heap.size (w.alloc o) w') : Dn w' x n d V := (h.alloc o).below hb
theorem Dn.drew {w x n d V} (h : Dn w x n d V) : Dn w.drew x n d V := ⟨h.rd, h.dg, h.fm, h.val⟩
theorem Dn.pos {w x n d V} (h : Dn w x n d V) (hV : 0 < V) : 0 < n := by
  rcases Nat.eq_zero_or_pos n with h0 | h0
  · subst h0; have : (0 : Int) = V := h.val; omega
  · exact h0
theorem Dn.zero {w x d V} (h : Dn w x 0 d V) : V = 0 := by have : (0 : Int) = V := h.val; omega
theorem Dn.pos' {w x n d V} (h : Dn w x n d V) (hn : 0 < n) : 0 < V := by
  have h1 := vd_form_ge h.dg h.fm hn
  have h2 := pd_pos (n - 1)
  rw [h.val] at h1
  omega
theorem dAdd_c {w x n c d A y m e g B} (ha : Dn w x n d A) (hb : Dn w y m g B) (hn : n ≤ 262144) (hm : m ≤ 262144) :
    Calls Tryz.prog 95 #[.slice x n c, .slice y m e] w fun e w' => ∃ z k c' q, e = .returned (.slice z k c') ∧ Below w.heap.size w w' ∧ Hid (k ≤ n + m + 1 ∧ Dn w' z k q (A + B)) :=
  (radd_c x y n m c e d g w (by omega) (by omega) ha.rd hb.rd ha.dg hb.dg).mono (fun _ _ ⟨z, k, c', q, h1, h2, h3, h4, h5, h6, h7⟩ => ⟨z, k, c', q, h1, h2, h4, h3, h5, h6, by rw [h7, ha.val, hb.val]; omega⟩)
theorem dSub_c {w x n c d A y m e g B} (ha : Dn w x n d A) (hb : Dn w y m g B) (hn : n ≤ 262144) (hm : m ≤ 262144) (hle : B ≤ A) :
    Calls Tryz.prog 89 #[.slice x n c, .slice y m e] w fun e w' => ∃ z k c' q, e = .returned (.slice z k c') ∧ Below w.heap.size w w' ∧ Hid (k ≤ n ∧ Dn w' z k q (A - B)) :=
  (rsub_c x y n m c e d g w (by omega) (by omega) (vd_len hb.dg ha.dg hb.fm (by rw [ha.val, hb.val]; omega)) ha.rd hb.rd ha.dg hb.dg (by rw [ha.val, hb.val]; omega)).mono (fun _ _ ⟨z, k, c', q, h1, h2, h3, h4, h5, h6, h7⟩ => ⟨z, k, c', q, h1, h2, h4, h3, h5, h6, by rw [h7, ha.val, hb.val]; omega⟩)
theorem dMul_c {w x n c d A y m e g B} (ha : Dn w x n d A) (hb : Dn w y m g B) (hn : n ≤ 262144) (hm : m ≤ 262144) :
    Calls Tryz.prog 70 #[.slice x n c, .slice y m e] w fun e w' => ∃ z k c' q, e = .returned (.slice z k c') ∧ Below w.heap.size w w' ∧ Hid (k ≤ n + m ∧ Dn w' z k q (A * B)) :=
  (rmulD_c x y n m c e d g w hn hm ha.rd hb.rd ha.dg hb.dg).mono (fun _ _ ⟨z, k, c', q, h1, h2, h3, h4, h5, h6, h7⟩ => ⟨z, k, c', q, h1, h2, h3, h4, h5, h6, by rw [h7, ha.val, hb.val]; simp⟩)
end Go.Proofs.YthofcgpghbaccaaGreat
namespace Go.Proofs.YthofcgpghbaccaaGreat
open Go.RowKit

set_option maxRecDepth 100000 in
set_option maxHeartbeats 800000 in
theorem rword_c {w : World} {x n c d} {V : Nat} (h : Dn w x n d V) (hn : n ≤ 2) :
    Calls Tryz.prog 93 #[.slice x n c] w fun e w' => e = .returned (.int .u64 V) ∧ w' = w := by
  have H := hid h
  clear h
  go_enter Tryz.func93, Tryz.ntmps93
  go_wp2
  go_loop [3, 4] (fun t u => ∃ (k : Nat) (z : Int), k ≤ n ∧ z = (k : Int) - 1 ∧ u = .int .i64 z ∧ ∃ X : Int, t = .int .u64 X ∧ Hid (X = vd (sh d k) (n - k))) (fun _ u => (intOf u + 1).toNat)
  case atStart => exact ⟨n, (n : Int) - 1, by omega, rfl, rfl, 0, rfl, by rw [Nat.sub_self]; rfl⟩
  case round =>
    obtain ⟨k, z, hk, hz, rfl, X, rfl, HX⟩ := hrel
    rcases Nat.eq_zero_or_pos k with h0 | h0
    · subst h0
      have hz' : z < 0 := by omega
      have hd : decide ((0 : Int) ≤ z) = false := by simp; omega
      go_wp2
      go_ret
      refine ⟨?_, rfl⟩
      have h1 : vd (sh d 0) (n - 0) = vd d n := by
        have : sh d 0 = d := by funext j; simp [sh]
        rw [this]; rfl
      have : X = V := by rw [HX.out, h1, H.out.val]
      rw [this]; rfl
    · obtain ⟨j, rfl⟩ : ∃ j, k = j + 1 := ⟨k - 1, by omega⟩
      have hz' : z = (j : Int) := by omega
      subst hz'
      have hr := H.out.rd
      obtain ⟨b, o, rfl⟩ := hr.at (by omega)
      obtain ⟨y, hy⟩ : ∃ y, d j = y := ⟨_, rfl⟩
      have hcell : w.cell? ⟨b, o + j, none⟩ = some (.int .u64 y) := by rw [← hy]; exact hr.cell (by omega)
      obtain ⟨y0, y1⟩ := H.out.dg j (by omega)
      rw [hy] at y0 y1
      have hX : 0 ≤ X ∧ X < 4294967296 := by
        rw [HX.out]
        rcases (show n - (j + 1) = 0 ∨ n - (j + 1) = 1 by omega) with e | e
        · rw [e]; simp [vd]
        · rw [e]
          have e1 : vd (sh d (j + 1)) 1 = d (j + 1) := by simp [vd, pd, sh]
          rw [e1]
          exact H.out.dg (j + 1) (by omega)
      obtain ⟨X0, X1⟩ := hX
      have hs : X * 4294967296 + y = vd (sh d j) (n - j) := by
        rw [show n - j = (n - (j + 1)) + 1 by omega, vd_cons, hy, HX.out]; omega
      have HS := hid hs
      clear hs hy hr hz
      go_wp2
      go_round
      case rel => exact ⟨j, (j : Int) - 1, by omega, rfl, rfl, X * 4294967296 + y, rfl, HS.out⟩
      case measure => simp [intOf]
end Go.Proofs.YthofcgpghbaccaaGreat
namespace Go.Proofs.YthofcgpghbaccaaGreat
open Go.RowKit

theorem zMk_c (s : Bool) (ao : Option Addr) (n cap : Nat) (w : World) (hm : n ≤ 9223372036854775807) :
    Calls Tryz.prog 69 #[.bool s, .slice ao n cap] w fun e w' => ∃ r, e = .returned (.agg #[.bool r, .slice ao n cap]) ∧ Hid (r = (s && decide (0 < n))) ∧ Below w.heap.size w w' := by
  have key : ∀ u, Below w.heap.size w (w.alloc u) := fun u => below_alloc (Below.refl w.heap.size w) u
  cases s
  · go_enter Tryz.func69, Tryz.ntmps69
    go_wp2
    exact bodyPost_ret (v := .agg #[.bool false, .slice ao n cap]) (by simp [results, Tryz.results69, go_sem]) rfl ⟨false, rfl, rfl, key _⟩
  · by_cases hn0 : 0 < n
    · have hni : decide ((0 : Int) < (n : Int)) = true := by simp; omega
      have hdn : decide (0 < n) = true := by simp; omega
      rw [hdn]
      clear hdn
      go_enter Tryz.func69, Tryz.ntmps69
      go_wp2
      exact bodyPost_ret (v := .agg #[.bool true, .slice ao n cap]) (by simp [results, Tryz.results69, go_sem]) rfl ⟨true, rfl, rfl, key _⟩
    · have hni : decide ((0 : Int) < (n : Int)) = false := by simp; omega
      have hdn : decide (0 < n) = false := by simp; omega
      rw [hdn]
      clear hdn
      go_enter Tryz.func69, Tryz.ntmps69
      go_wp2
      exact bodyPost_ret (v := .agg #[.bool false, .slice ao n cap]) (by simp [results, Tryz.results69, go_sem]) rfl ⟨false, rfl, rfl, key _⟩

/-- A new box for an answer of three cells. -/
structure Ob (w : World) (B : Nat) : Prop where
  z : B < w.heap.size
  z0 : w.cell? ⟨B, 0, none⟩ = some (.bool false)
  z1 : w.cell? ⟨B, 1, none⟩ = some (.slice none 0 0)
  z2 : w.cell? ⟨B, 2, none⟩ = some (.slice none 0 0)
  zf : ∀ o, w.frozen? ⟨B, o, none⟩ = false
theorem Ob.below {w w' B} (h : Ob w B) (hb : Below w.heap.size w w') : Ob w' B := by
  obtain ⟨h1, h2⟩ := bcell hb
  exact ⟨Nat.lt_of_lt_of_le h.z hb.size, kCb hb h.z0, kCb hb h.z1, kCb hb h.z2, fun o => (h2 _ _ h.z).trans (h.zf o)⟩
theorem kOb {w w' B} (hb : Below w.heap.size w w') (h : Ob w B) : Ob w' B := h.below hb
theorem kDb {w w' x n d V} (hb : Below w.heap.size w w') (h : Dn w x n d V) : Dn w' x n d V := h.below hb
theorem Ob.alloc {w B} (h : Ob w B) (o : Obj) : Ob (w.alloc o) B := h.below (below_alloc (Below.refl _ _) o)
theorem Ob.next {w w' B} {o : Obj} (h : Ob w B) (hb : Below (w.alloc o).heap.size (w.alloc o) w') : Ob w' B := (h.alloc o).below hb
theorem Ob.drew {w B} (h : Ob w B) : Ob w.drew B := ⟨h.z, h.z0, h.z1, h.z2, h.zf⟩
theorem Ob.drewN {w B} (h : Ob w B) (q : Nat) : Ob (w.drewN q) B := ⟨h.z, h.z0, h.z1, h.z2, h.zf⟩
theorem ob_new (w : World) (t : TypeId) : Ob (w.alloc (.cells #[.bool false, .slice none 0 0, .slice none 0 0] t)) w.heap.size := by
  refine ⟨by simp, by simp [go_sem], by simp [go_sem], by simp [go_sem], fun o => ?_⟩
  have e := heap_alloc_new w (.cells #[.bool false, .slice none 0 0, .slice none 0 0] t)
  simp only [World.frozen?, e]; simp
theorem rd_setne {w : World} {p : Addr} {v u : Value} {x n f} (hp : w.cell? p = some v) (hv : ∀ i, v ≠ .int .u64 i) (h : Rd .u64 w x n f) : Rd .u64 (w.setCell p u) x n f := by
  intro j hj
  obtain ⟨b, o, hx, hc⟩ := h j hj
  refine ⟨b, o, hx, ?_⟩
  rw [World.cell?_setCell_other _ _ _ _ (fun he => hv _ (Option.some.inj (hp.symm.trans (he ▸ hc))))]
  exact hc
theorem Ob.rd {w B u0 u1 u2 x n f} (h : Ob w B) (hx : Rd .u64 w x n f) : Rd .u64 (((w.setCell ⟨B, 0, none⟩ u0).setCell ⟨B, 1, none⟩ u1).setCell ⟨B, 2, none⟩ u2) x n f :=
  rd_setne (cell_off (by decide) (cell_off (by decide) h.z2)) (fun i h => by cases h) (rd_setne (cell_off (by decide) h.z1) (fun i h => by cases h) (rd_setne h.z0 (fun i h => by cases h) hx))
theorem Ob.wn {w B u0 u1 u2 s x n c f v} (h : Ob w B) (hx : Wn w s x n c f v) : Wn (((w.setCell ⟨B, 0, none⟩ u0).setCell ⟨B, 1, none⟩ u1).setCell ⟨B, 2, none⟩ u2) s x n c f v := ⟨h.rd hx.rd, hx.lm, hx.wf, hx.cap, hx.nil, hx.val⟩
theorem Ob.dn {w B u0 u1 u2 x n d V} (h : Ob w B) (hx : Dn w x n d V) : Dn (((w.setCell ⟨B, 0, none⟩ u0).setCell ⟨B, 1, none⟩ u1).setCell ⟨B, 2, none⟩ u2) x n d V := ⟨h.rd hx.rd, hx.dg, hx.fm, hx.val⟩
theorem Ob.rn {w B u0 u1 u2 L s x n c f y m d g q} (h : Ob w B) (hx : Rn L w s x n c f y m d g q) : Rn L (((w.setCell ⟨B, 0, none⟩ u0).setCell ⟨B, 1, none⟩ u1).setCell ⟨B, 2, none⟩ u2) s x n c f y m d g q := ⟨h.wn hx.num, h.wn hx.den, hx.ln, hx.ld⟩
theorem below_st {w0 w : World} {B : Nat} {u0 u1 u2 : Value} (hw : Below w0.heap.size w0 w) (hB : w0.heap.size ≤ B) :
    Below w0.heap.size w0 (((w.setCell ⟨B, 0, none⟩ u0).setCell ⟨B, 1, none⟩ u1).setCell ⟨B, 2, none⟩ u2) :=
  below_turned hw hw.size ((((Turned.refl w0.heap.size (B + 1) w).set (x := ⟨B, 0, none⟩) hB (by simp) _).set (x := ⟨B, 1, none⟩) hB (by simp) _).set (x := ⟨B, 2, none⟩) hB (by simp) _) (Nat.le_refl _)
theorem Dn.drewN {w x n d V} (h : Dn w x n d V) (q : Nat) : Dn (w.drewN q) x n d V := ⟨h.rd, h.dg, h.fm, h.val⟩
theorem dn64 {w x n d V} (h : Dn w x n d V) (hn : n ≤ 2) : V < 18446744073709551616 := by
  have h1 := vd_lt h.dg
  rw [h.val] at h1
  rcases (show n = 0 ∨ n = 1 ∨ n = 2 by omega) with rfl | rfl | rfl <;> simp [pd] at h1 <;> omega

set_option maxRecDepth 100000 in
set_option maxHeartbeats 4000000 in
theorem mkSmall_c {w : World} {s x n c d y m e g} {A B : Nat} (ha : Dn w x n d A) (hb : Dn w y m g B) (h0 : 0 < A) (hn : n ≤ 2) (hm : m ≤ 2) (hB : 0 < B) :
    Calls Tryz.prog 66 #[.agg #[.bool s, .slice x n c], .slice y m e] w fun en w' => ∃ r z k c' d' z2 k2 c2 d2, en = .returned (.agg #[.bool r, .slice z k c', .slice z2 k2 c2]) ∧ Below w.heap.size w w' ∧ k ≤ 2 ∧ k2 ≤ 2 ∧ r = (s && decide (0 < k)) ∧ Dn w' z k d' (A / A.gcd B) ∧ Dn w' z2 k2 d2 (B / A.gcd B) := by
  have hA64 := dn64 ha hn; have hB64 := dn64 hb hm
  have hnp : 0 < n := by
    rcases Nat.eq_zero_or_pos n with h | h
    · subst h; have : (0 : Int) = A := ha.val; omega
    · exact h
  have h1 := (ha.alloc (.cells #[.bool s, .slice x n c] 61)).alloc (.cells #[.bool false, .slice none 0 0, .slice none 0 0] 63)
  have h2 := (hb.alloc (.cells #[.bool s, .slice x n c] 61)).alloc (.cells #[.bool false, .slice none 0 0, .slice none 0 0] 63)
  have h3 := ob_new (w.alloc (.cells #[.bool s, .slice x n c] 61)) 63
  rw [size_alloc1] at h3
  have h4 := below_alloc (below_alloc (Below.refl w.heap.size w) (.cells #[.bool s, .slice x n c] 61)) (.cells #[.bool false, .slice none 0 0, .slice none 0 0] 63)
  have h5 : (((w.alloc (.cells #[.bool s, .slice x n c] 61)).alloc (.cells #[.bool false, .slice none 0 0, .slice none 0 0] 63)).cell? ⟨w.heap.size, 0, none⟩ = some (.bool s)) := by simp [go_sem]
  clear ha hb
  have hn0 : ((n : Int) == 0) = false := by simp; omega
  have hn2 : decide ((n : Int) ≤ 2) = true := by simp; omega
  have hm2 : decide ((m : Int) ≤ 2) = true := by simp; omega
  go_enter Tryz.func66, Tryz.ntmps66
  go_wp2_with fail
  generalize (w.alloc (.cells #[.bool s, .slice x n c] 61)).alloc (.cells #[.bool false, .slice none 0 0, .slice none 0 0] 63) = w1 at *
  have HA := hid h1; have HB := hid h2; have OB := hid h3; have HW := hid h4
  obtain ⟨hz, z0, z1, z2, zf⟩ := h3
  clear h1 h2 h4
  refine (rword_c HA.out hn).mono ?_
  rintro en w2 ⟨rfl, rfl⟩
  go_wp2_with fail
  refine (rword_c HB.out hm).mono ?_
  rintro en w3 ⟨rfl, rfl⟩
  go_wp2
  go_loopw [7, 8] (fun t u wr => ∃ (G R q : Nat), t = .int .u64 G ∧ u = .int .u64 R ∧ wr = w3.drewN q ∧ 0 < G ∧ G < 18446744073709551616 ∧ R < 18446744073709551616 ∧ Hid (G.gcd R = A.gcd B)) (fun _ u _ => (intOf u).toNat)
  case atStart => exact ⟨A, B, 0, rfl, rfl, rfl, h0, hA64, hB64, rfl⟩
  case round =>
    obtain ⟨G, R, q, rfl, rfl, rfl, hG0, hG64, hR64, HG⟩ := hrel
    by_cases hR : 0 < R
    · have hd : decide ((0 : Int) < (R : Int)) = true := by simp; omega
      have hne : ((R : Int) == 0) = false := by simp; omega
      have hne' : (R : Int) ≠ 0 := by omega
      go_wp2
      go_quiet (fail)
      go_wp2
      go_roundw
      case rel => exact ⟨R, G % R, _, rfl, by simp, by (repeat rw [World.drewN_drewN]) <;> rfl, hR, hR64, by have := Nat.mod_lt G hR; omega, hid (by rw [Nat.gcd_comm, ← Nat.gcd_rec, Nat.gcd_comm]; exact HG.out)⟩
      case measure => have := Nat.mod_lt G hR; simp only [intOf]; omega
    · have hd : decide ((0 : Int) < (R : Int)) = false := by simp; omega
      have hR0 : R = 0 := by omega
      subst hR0
      have hg : G = A.gcd B := by have := HG.out; rw [Nat.gcd_zero_right] at this; exact this
      go_wp2
      have hwq : Below w.heap.size w (w3.drewN q) := below_drewN HW.out q
      have OQ := OB.out.drewN q
      have hcq : (w3.drewN q).cell? ⟨w.heap.size, 0, none⟩ = some (.bool s) := h5
      have hGi : (G : Int) ≠ 0 := by omega
      have hGi' : ((G : Int) == 0) = false := by simp; omega
      have hGp : (0 : Int) < (G : Int) := by omega
      have hGm : (G : Int) < 18446744073709551616 := by omega
      have hA0 : (0 : Int) ≤ (A : Int) := by omega
      have hAm : (A : Int) < 18446744073709551616 := by omega
      have hB0 : (0 : Int) ≤ (B : Int) := by omega
      have hBm : (B : Int) < 18446744073709551616 := by omega
      obtain ⟨QA, hqa⟩ : ∃ q : Int, (A : Int) / (G : Int) = q := ⟨_, rfl⟩
      obtain ⟨QB, hqb⟩ : ∃ q : Int, (B : Int) / (G : Int) = q := ⟨_, rfl⟩
      have hQA0 : 0 ≤ QA := by rw [← hqa]; exact Int.ediv_nonneg hA0 (by omega)
      have hQB0 : 0 ≤ QB := by rw [← hqb]; exact Int.ediv_nonneg hB0 (by omega)
      have hQA1 : QA < 18446744073709551616 := by have := Int.ediv_le_self (b := (G : Int)) hA0; omega
      have hQB1 : QB < 18446744073709551616 := by have := Int.ediv_le_self (b := (G : Int)) hB0; omega
      have HqA : Hid (QA = ((A / G : Nat) : Int)) := hid (by rw [← hqa]; exact (Int.natCast_ediv _ _).symm)
      have HqB : Hid (QB = ((B / G : Nat) : Int)) := hid (by rw [← hqb]; exact (Int.natCast_ediv _ _).symm)
      have HG2 := hid hg
      clear hg
      clear HG hz z0 z1 z2 zf OB h5
      generalize w3.drewN q = w4 at *
      clear hG64 hA64 hB64 hR64 hd hG0
      generalize hgi : (G : Int) = Gi at *
      generalize hai : (A : Int) = Ai at *
      generalize hbi : (B : Int) = Bi at *
      have HgI := hid hgi; have HaI := hid hai; have HbI := hid hbi
      have hGn : ¬ (Gi = 0) := hGi
      clear hgi hai hbi hGi
      have hwa : IntKind.u64.wrap (Ai.tdiv Gi) = QA := by rw [Int.tdiv_eq_ediv_of_nonneg hA0, hqa, IntKind.wrap_u64]; omega
      have hwb : IntKind.u64.wrap (Bi.tdiv Gi) = QB := by rw [Int.tdiv_eq_ediv_of_nonneg hB0, hqb, IntKind.wrap_u64]; omega
      clear hqa hqb
      obtain ⟨hz, z0, z1, z2, zf⟩ := id OQ
      have C1 : Hid (∀ W, Below w4.heap.size w4 W → Calls Tryz.prog 92 #[.int .u64 QA] W fun e w' => ∃ z k cap d, e = .returned (.slice z k cap) ∧ Below W.heap.size W w' ∧ Hid (k ≤ 2 ∧ Dn w' z k d (A / G))) := fun W hW => by
        exact (word2_c QA W hQA0 hQA1).mono (fun e w' ⟨k, cap, h1, h2, h3, h4, h5, h6, h7⟩ => ⟨_, k, cap, _, h1, h2, h3, h4, h5, h6, h7.trans HqA.out⟩)
      have C2 : Hid (∀ W, Below w4.heap.size w4 W → Calls Tryz.prog 92 #[.int .u64 QB] W fun e w' => ∃ z k cap d, e = .returned (.slice z k cap) ∧ Below W.heap.size W w' ∧ Hid (k ≤ 2 ∧ Dn w' z k d (B / G))) := fun W hW => by
        exact (word2_c QB W hQB0 hQB1).mono (fun e w' ⟨k, cap, h1, h2, h3, h4, h5, h6, h7⟩ => ⟨_, k, cap, _, h1, h2, h3, h4, h5, h6, h7.trans HqB.out⟩)
      have C3 : Hid (∀ (W : World) (z : Option Addr) (k cap : Nat), k ≤ 2 → Calls Tryz.prog 69 #[.bool s, .slice z k cap] W fun e w' => ∃ r, e = .returned (.agg #[.bool r, .slice z k cap]) ∧ Below W.heap.size W w' ∧ Hid (r = (s && decide (0 < k)))) := fun W z k cap hk => (zMk_c s z k cap W (by omega)).mono (fun e w' ⟨r, h1, h2, h3⟩ => ⟨r, h1, h3, h2⟩)
      go_region_held3 (fun w' => w'.cell? ⟨w.heap.size, 0, none⟩ = some (.bool s) ∧ (w'.cell? ⟨w.heap.size + 1, 0, none⟩).isSome = true ∧ (w'.cell? ⟨w.heap.size + 1, 1, none⟩).isSome = true ∧ (w'.cell? ⟨w.heap.size + 1, 2, none⟩).isSome = true ∧ w'.frozen? ⟨w.heap.size + 1, 0, none⟩ = false ∧ w'.frozen? ⟨w.heap.size + 1, 1, none⟩ = false ∧ w'.frozen? ⟨w.heap.size + 1, 2, none⟩ = false)
        (refine ⟨?_, ?_, ?_, ?_, ?_, ?_, ?_⟩ <;> repeat (with_reducible first | assumption | exact zf _ | exact tf _ | exact uf _ | exact vf' _ | exact kI0 z0 | exact kI0 z1 | exact kI0 z2 | exact kI0 t0 | exact kI0 t1 | exact kI0 t2 | exact kI0 u0 | exact kI0 u1 | exact kI0 u2 | exact kI0 v0 | exact kI0 v1 | exact kI0 v2 | refine kCd ?_ | refine kId ?_ | refine kFd ?_ | refine kCs (by simp only [ne_eq]; omega) ?_ | refine kIs ?_ | refine kFs ?_ | refine kCb (by assumption) ?_ | refine kIb (by assumption) ?_))
        (first
          | (go_at_call 92; with_reducible refine (C1.out _ (by repeat (with_reducible first | assumption | exact Below.refl _ _ | refine Below.drew ?_ | refine kBa ?_ | refine kBb (by assumption) ?_))).mono ?_; rintro e w5 ⟨za, ka, ca, da, rfl, hb5, HP⟩; have hka : ka ≤ 2 := HP.out.1; have TU : Ob w5 (w.heap.size + 1) := (by repeat (with_reducible first | exact OQ | exact TU | exact TV | exact TW | refine Ob.drew ?_ | refine kOb (by assumption) ?_)); obtain ⟨_, t0, t1, t2, tf⟩ := id TU)
          | (go_at_call 69; with_reducible refine (C3.out _ za ka ca hka).mono ?_; rintro e w6 ⟨r, rfl, hb6, HR⟩; have TV : Ob w6 (w.heap.size + 1) := (by repeat (with_reducible first | exact OQ | exact TU | exact TV | exact TW | refine Ob.drew ?_ | refine kOb (by assumption) ?_)); obtain ⟨_, u0, u1, u2, uf⟩ := id TV)
          | (go_at_call 92; with_reducible refine (C2.out _ (by repeat (with_reducible first | assumption | exact Below.refl _ _ | refine Below.drew ?_ | refine kBa ?_ | refine kBb (by assumption) ?_))).mono ?_; rintro e w7 ⟨zb, kb, cb, db, rfl, hb7, HQ⟩; have hkb : kb ≤ 2 := HQ.out.1; have TW : Ob w7 (w.heap.size + 1) := (by repeat (with_reducible first | exact OQ | exact TU | exact TV | exact TW | refine Ob.drew ?_ | refine kOb (by assumption) ?_)); obtain ⟨_, v0, v1, v2, vf'⟩ := id TW))
      have hb : Below w4.heap.size w4 w7 := (by repeat (with_reducible first | assumption | exact Below.refl _ _ | refine Below.drew ?_ | refine kBa ?_ | refine kBb (by assumption) ?_))
      have DA := HP.out.2; have DB := HQ.out.2
      have DA7 : Dn w7 za ka da (A / G) := (by repeat (with_reducible first | exact DA | refine Dn.drew ?_ | refine kDb (by first | exact hb6 | exact hb7) ?_))
      go_wp2
      refine bodyPost_ret (v := .agg #[.bool r, .slice za ka ca, .slice zb kb cb]) (by simp [results, Tryz.results66, go_sem, v0, v1, v2]) rfl ⟨r, za, ka, ca, da, zb, kb, cb, db, rfl, below_st (hwq.trans (hb.mono hwq.size)) (by omega), hka, hkb, HR.out, ?_, ?_⟩
      · rw [← HG2.out]; exact TW.dn DA7
      · rw [← HG2.out]; exact TW.dn DB
end Go.Proofs.YthofcgpghbaccaaGreat
namespace Go.Proofs.YthofcgpghbaccaaGreat
open Go.RowKit

theorem Tg.set {w x} (h : Tg w x) (p : Addr) (u : Value) : Tg (w.setCell p u) x := fun a ha => by
  obtain ⟨arr, fr, hh⟩ := h a ha
  by_cases e : a.block = p.block
  · refine ⟨if p.spot.isSome then arr else arr.setIfInBounds p.off u, fr, ?_⟩
    rw [e] at hh ⊢
    simp [World.setCell, Array.getElem?_modify, hh]
  · exact ⟨arr, fr, (Below.heap_setCell w p u a.block e).trans hh⟩
theorem Tg.alloc {w x} (h : Tg w x) (o : Obj) : Tg (w.alloc o) x := h.below (below_alloc (Below.refl _ _) o)
theorem make_made {u v : Int} {s t : Bool} (hu : u = sg s u.natAbs) (hv : v = sg t v.natAbs) (h0 : 0 < v.natAbs) :
    ((u : Rat) / (v : Rat)).num = sg (s != t) (u.natAbs / u.natAbs.gcd v.natAbs) ∧ ((u : Rat) / (v : Rat)).den = v.natAbs / u.natAbs.gcd v.natAbs := by
  have e1 := Nat.div_mul_cancel (Nat.gcd_dvd_left u.natAbs v.natAbs)
  have e2 := Nat.div_mul_cancel (Nat.gcd_dvd_right u.natAbs v.natAbs)
  have := rmake (s := s) (t := t) (NA := u.natAbs / u.natAbs.gcd v.natAbs) (NB := v.natAbs / u.natAbs.gcd v.natAbs) (G := u.natAbs.gcd v.natAbs) (by rw [e2]; exact h0) (by rw [e1, e2])
  rw [e1, e2, ← hu, ← hv] at this
  exact this
/-- A number that a call answers without an error; its lists lie in blocks of limbs. -/
def RatTgt (L : Nat) (w w' : World) (e : Ending) (q : Rat) : Prop := ∃ s x n c f y m d g, e = .returned (.tuple #[.agg #[.bool s, .slice x n c, .slice y m d], .int .i64 0]) ∧ Below w.heap.size w w' ∧ Rn L w' s x n c f y m d g q ∧ Tg w' x ∧ Tg w' y
/-- The like, alone. -/
def RatTga (L : Nat) (w w' : World) (e : Ending) (q : Rat) : Prop := ∃ s x n c f y m d g, e = .returned (.agg #[.bool s, .slice x n c, .slice y m d]) ∧ Below w.heap.size w w' ∧ Rn L w' s x n c f y m d g q ∧ Tg w' x ∧ Tg w' y
theorem own_wn {w base x n c f} {V : Nat} (h : Own .u64 74 w base (.slice x n c) n f) (hl : Lm f n) (hf : Fm f n) (hv : vf f n = V) : Wn w false x n c f (V : Int) := by
  obtain ⟨h1, h2, h3, h4, _⟩ := h.slice
  exact ⟨h4, hl, (wfB_iff _ _ _).2 ⟨hf, fun h => by cases h⟩, ⟨h1, h2⟩, h3, hv⟩
theorem toWn_c {w x n c d} {V : Nat} (h : Dn w x n d V) (hn : n ≤ 1048576) :
    Calls Tryz.prog 71 #[.slice x n c] w fun e w' => ∃ z k c' f, e = .returned (.slice z k c') ∧ Below w.heap.size w w' ∧ Hid (k ≤ n ∧ Wn w' false z k c' f (V : Int) ∧ Tg w' z) :=
  (toOwn_c x n c d w hn h.rd h.dg h.fm).mono (fun _ _ ⟨z, k, c', f, h1, h2, h3, _, h4, h5, h6, h7⟩ => ⟨z, k, c', f, h1, h3, h4, own_wn h2 h5 h6 (h7.trans h.val), h2.tg⟩)
theorem fromDn_c {w s x n c f v} (h : Wn w s x n c f v) (hn : n ≤ 1048576) :
    Calls Tryz.prog 65 #[.slice x n c] w fun e w' => ∃ z k c', e = .returned (.slice z k c') ∧ Below w.heap.size w w' ∧ Hid (k ≤ 2 * n ∧ Dn w' z k (dig f) v.natAbs) :=
  (from_c x n c f w hn h.rd h.lm).mono (fun _ _ ⟨z, k, c', h1, h2, h3, h4, _, h6, h7, h8⟩ => ⟨z, k, c', h1, h2, h4, h3, h6, h7, h8.trans h.mag.nv⟩)

set_option maxRecDepth 100000 in
set_option maxHeartbeats 4000000 in
theorem qTo_c {w : World} {r : Bool} {x n c d y m e g} {A B : Nat} (ha : Dn w x n d A) (hb : Dn w y m g B) (hn : n ≤ 131072) (hm : m ≤ 131072) :
    Calls Tryz.prog 36 #[.agg #[.bool r, .slice x n c, .slice y m e]] w fun en w' => ∃ z k c' f z2 k2 c2 f2, en = .returned (.agg #[.bool r, .slice z k c', .slice z2 k2 c2]) ∧ Below w.heap.size w w' ∧ k ≤ n ∧ k2 ≤ m ∧ Wn w' false z k c' f (A : Int) ∧ Wn w' false z2 k2 c2 f2 (B : Int) ∧ Tg w' z ∧ Tg w' z2 := by
  have h1 := (ha.alloc (.cells #[.bool r, .slice x n c, .slice y m e] 63)).alloc (.cells #[.bool false, .slice none 0 0, .slice none 0 0] 25)
  have h2 := (hb.alloc (.cells #[.bool r, .slice x n c, .slice y m e] 63)).alloc (.cells #[.bool false, .slice none 0 0, .slice none 0 0] 25)
  have h3 := ob_new (w.alloc (.cells #[.bool r, .slice x n c, .slice y m e] 63)) 25
  rw [size_alloc1] at h3
  have h4 := below_alloc (below_alloc (Below.refl w.heap.size w) (.cells #[.bool r, .slice x n c, .slice y m e] 63)) (.cells #[.bool false, .slice none 0 0, .slice none 0 0] 25)
  have h5 := (bx3_at w (.bool r) (.slice x n c) (.slice y m e) 63).alloc (.cells #[.bool false, .slice none 0 0, .slice none 0 0] 25)
  clear ha hb
  go_enter Tryz.func36, Tryz.ntmps36
  go_wp2_with fail
  generalize (w.alloc (.cells #[.bool r, .slice x n c, .slice y m e] 63)).alloc (.cells #[.bool false, .slice none 0 0, .slice none 0 0] 25) = w1 at *
  have HA := hid h1; have HB := hid h2; have OB := h3; have HW := hid h4
  obtain ⟨hz, z0, z1, z2, zf⟩ := h3
  obtain ⟨hy, x0, x1, x2⟩ := h5
  clear h1 h2 h4
  have C1 : Hid (∀ W, Below w1.heap.size w1 W → Calls Tryz.prog 71 #[.slice x n c] W fun e w' => ∃ z k c' f, e = .returned (.slice z k c') ∧ Below W.heap.size W w' ∧ Hid (k ≤ n ∧ Wn w' false z k c' f (A : Int) ∧ Tg w' z)) := fun W hW => toWn_c (HA.out.below hW) (by omega)
  have C2 : Hid (∀ W, Below w1.heap.size w1 W → Calls Tryz.prog 71 #[.slice y m e] W fun e w' => ∃ z k c' f, e = .returned (.slice z k c') ∧ Below W.heap.size W w' ∧ Hid (k ≤ m ∧ Wn w' false z k c' f (B : Int) ∧ Tg w' z)) := fun W hW => toWn_c (HB.out.below hW) (by omega)
  go_region_held3 (fun w' => w'.cell? ⟨w.heap.size, 0, none⟩ = some (.bool r) ∧ w'.cell? ⟨w.heap.size, 1, none⟩ = some (.slice x n c) ∧ w'.cell? ⟨w.heap.size, 2, none⟩ = some (.slice y m e) ∧ (w'.cell? ⟨w.heap.size + 1, 0, none⟩).isSome = true ∧ (w'.cell? ⟨w.heap.size + 1, 1, none⟩).isSome = true ∧ (w'.cell? ⟨w.heap.size + 1, 2, none⟩).isSome = true ∧ w'.frozen? ⟨w.heap.size + 1, 0, none⟩ = false ∧ w'.frozen? ⟨w.heap.size + 1, 1, none⟩ = false ∧ w'.frozen? ⟨w.heap.size + 1, 2, none⟩ = false)
    (refine ⟨?_, ?_, ?_, ?_, ?_, ?_, ?_, ?_, ?_⟩ <;> repeat (with_reducible first | assumption | exact zf _ | exact kI0 z0 | exact kI0 z1 | exact kI0 z2 | exact tf _ | exact kI0 t0 | exact kI0 t1 | exact kI0 t2 | exact uf _ | exact kI0 u0 | exact kI0 u1 | exact kI0 u2 | refine kCd ?_ | refine kId ?_ | refine kFd ?_ | refine kCs (by simp only [ne_eq]; omega) ?_ | refine kIs ?_ | refine kFs ?_ | refine kCb (by assumption) ?_ | refine kIb (by assumption) ?_))
    (first
      | (go_at_call 71; with_reducible refine (C1.out _ (by repeat (with_reducible first | assumption | exact Below.refl _ _ | refine Below.drew ?_ | refine kBa ?_ | refine kBb (by assumption) ?_))).mono ?_; rintro e w5 ⟨za, ka, ca, fa, rfl, hb5, HP⟩; have TU : Ob w5 (w.heap.size + 1) := (by repeat (with_reducible first | exact OB | exact hO2 | exact TU | exact TV | exact TW | exact TX | exact TY | refine Ob.drew ?_ | refine kOb (by assumption) ?_)); obtain ⟨_, t0, t1, t2, tf⟩ := id TU)
      | (go_at_call 71; with_reducible refine (C2.out _ (by repeat (with_reducible first | assumption | exact Below.refl _ _ | refine Below.drew ?_ | refine kBa ?_ | refine kBb (by assumption) ?_))).mono ?_; rintro e w6 ⟨zb, kb, cb, fb, rfl, hb6, HQ⟩; have TV : Ob w6 (w.heap.size + 1) := (by repeat (with_reducible first | exact OB | exact hO2 | exact TU | exact TV | exact TW | exact TX | exact TY | refine Ob.drew ?_ | refine kOb (by assumption) ?_)); obtain ⟨_, u0, u1, u2, uf⟩ := id TV))
  have WA : Wn w6 false za ka ca fa (A : Int) := HP.out.2.1.below hb6
  have hb : Below w1.heap.size w1 w6 := (by repeat (with_reducible first | assumption | exact Below.refl _ _ | refine Below.drew ?_ | refine kBa ?_ | refine kBb (by assumption) ?_))
  go_wp2
  exact bodyPost_ret (v := .agg #[.bool r, .slice za ka ca, .slice zb kb cb]) (by simp [results, Tryz.results36, go_sem, u0, u1, u2]) rfl ⟨za, ka, ca, fa, zb, kb, cb, fb, rfl, below_st (HW.out.trans (hb.mono HW.out.size)) (by omega), HP.out.1, HQ.out.1, TV.wn WA, TV.wn HQ.out.2.1, ((((HP.out.2.2.below hb6).set _ _).set _ _).set _ _), (((HQ.out.2.2.set _ _).set _ _).set _ _)⟩

theorem mk_boxes {w w1 : World} {sa xa na ca sb xb nb cb} (hb : Below (((w.alloc (.cells #[.bool sa, .slice xa na ca] 103)).alloc (.cells #[.bool sb, .slice xb nb cb] 103)).alloc (.cells #[.bool false, .slice none 0 0, .slice none 0 0] 25)).heap.size (((w.alloc (.cells #[.bool sa, .slice xa na ca] 103)).alloc (.cells #[.bool sb, .slice xb nb cb] 103)).alloc (.cells #[.bool false, .slice none 0 0, .slice none 0 0] 25)) w1) :
    Bx w1 w.heap.size sa xa na ca ∧ Bx w1 (w.heap.size + 1) sb xb nb cb ∧ Ob w1 (w.heap.size + 1 + 1) ∧ Below w.heap.size w w1 := by
  have h0 : Bx (w.alloc (.cells #[.bool sa, .slice xa na ca] 103)) w.heap.size sa xa na ca := ⟨by simp, kN0, kN1⟩
  have h1 : Bx ((w.alloc (.cells #[.bool sa, .slice xa na ca] 103)).alloc (.cells #[.bool sb, .slice xb nb cb] 103)) (w.heap.size + 1) sb xb nb cb := by
    have := size_alloc1 w (.cells #[.bool sa, .slice xa na ca] 103)
    refine ⟨by simp, ?_, ?_⟩
    · rw [← this]; exact kN0
    · rw [← this]; exact kN1
  have h2 := ob_new ((w.alloc (.cells #[.bool sa, .slice xa na ca] 103)).alloc (.cells #[.bool sb, .slice xb nb cb] 103)) 25
  rw [size_alloc1, size_alloc1] at h2
  exact ⟨((h0.alloc _).alloc _).below hb, (h1.alloc _).below hb, h2.below hb, (below_alloc (below_alloc (below_alloc (Below.refl w.heap.size w) _) _) _).trans (hb.mono (by simp; omega))⟩

end Go.Proofs.YthofcgpghbaccaaGreat
namespace Go.Proofs.YthofcgpghbaccaaGreat
open Go.RowKit

theorem Wn.len1 {w s x n c f v} (h : Wn w s x n c f v) (hv : v.natAbs < 18446744073709551616) : n ≤ 1 := by
  rcases Nat.lt_or_ge 1 n with h2 | h2
  · have h1 := vf_form_ge h.lm h.fm (by omega)
    have h3 := pw_mono (show 1 ≤ n - 1 by omega)
    have h4 : pw 1 = 18446744073709551616 := by simp [pw]
    have h5 := h.mag.nv
    omega
  · omega
end Go.Proofs.YthofcgpghbaccaaGreat
namespace Go.Proofs.YthofcgpghbaccaaGreat
open Go.RowKit

theorem kM0 {w : World} {g : Nat} {x y : Value} {t : TypeId} (h : g = w.heap.size) : (w.alloc (.cells #[x, y] t)).cell? ⟨g, 0, none⟩ = some x := by subst h; exact kN0
theorem kM1 {w : World} {g : Nat} {x y : Value} {t : TypeId} (h : g = w.heap.size) : (w.alloc (.cells #[x, y] t)).cell? ⟨g, 1, none⟩ = some y := by subst h; exact kN1
theorem kCe {w : World} {a : Addr} {v : Value} (h : (w.cell? a).isSome = true) : (w.setCell a v).cell? a = some v := World.cell?_setCell_same' w a v h
theorem kCo {w : World} {b i j : Nat} {u v : Value} (hij : i ≠ j) (h : w.cell? ⟨b, j, none⟩ = some u) : (w.setCell ⟨b, i, none⟩ v).cell? ⟨b, j, none⟩ = some u := by
  rw [World.cell?_setCell_other _ _ _ _ (fun he => hij (congrArg Addr.off he))]; exact h
/-- A new box for an answer of two cells. -/
structure Ob2 (w : World) (B : Nat) : Prop where
  z : B < w.heap.size
  z0 : w.cell? ⟨B, 0, none⟩ = some (.bool false)
  z1 : w.cell? ⟨B, 1, none⟩ = some (.slice none 0 0)
  zf : ∀ o, w.frozen? ⟨B, o, none⟩ = false
theorem Ob2.below {w w' B} (h : Ob2 w B) (hb : Below w.heap.size w w') : Ob2 w' B := by
  obtain ⟨h1, h2⟩ := bcell hb
  exact ⟨Nat.lt_of_lt_of_le h.z hb.size, kCb hb h.z0, kCb hb h.z1, fun o => (h2 _ _ h.z).trans (h.zf o)⟩
theorem ob2_new (w : World) (t : TypeId) : Ob2 (w.alloc (.cells #[.bool false, .slice none 0 0] t)) w.heap.size := by
  refine ⟨by simp, by simp [go_sem], by simp [go_sem], fun o => ?_⟩
  have e := heap_alloc_new w (.cells #[.bool false, .slice none 0 0] t)
  simp only [World.frozen?, e]; simp
theorem Ob2.wn {w B u0 u1 s x n c f v} (h : Ob2 w B) (hx : Wn w s x n c f v) : Wn ((w.setCell ⟨B, 0, none⟩ u0).setCell ⟨B, 1, none⟩ u1) s x n c f v :=
  ⟨rd_setne (cell_off (by decide) h.z1) (fun i h => by cases h) (rd_setne h.z0 (fun i h => by cases h) hx.rd), hx.lm, hx.wf, hx.cap, hx.nil, hx.val⟩
theorem below_st2 {w0 w : World} {B : Nat} {u0 u1 : Value} (hw : Below w0.heap.size w0 w) (hB : w0.heap.size ≤ B) :
    Below w0.heap.size w0 ((w.setCell ⟨B, 0, none⟩ u0).setCell ⟨B, 1, none⟩ u1) :=
  below_turned hw hw.size (((Turned.refl w0.heap.size (B + 1) w).set (x := ⟨B, 0, none⟩) hB (by simp) _).set (x := ⟨B, 1, none⟩) hB (by simp) _) (Nat.le_refl _)
theorem flr_ediv {a b q r : Int} (hb : 0 < b) (h : Flr a b q r) : q = a / b := by
  obtain ⟨h1, h2⟩ := h
  have h3 : 0 ≤ r ∧ r < b := by omega
  have h4 : a / b = q := by
    rw [h1, Int.add_comm, Int.add_mul_ediv_right _ _ (by omega), Int.ediv_eq_zero_of_lt h3.1 h3.2]; omega
  exact h4.symm
/-- What stands behind the quotient. -/
structure FlAt (L : Nat) (w1 wx : World) (b4 : Nat) (s : Bool) (z : Option Addr) (k c : Nat) (v : Int) : Prop where
  bx : Bx wx b4 s z k c
  bel : Below w1.heap.size w1 wx
  wn : ∃ f, Wn wx s z k c f v
  le : k ≤ L + 2
theorem fl_of {L : Nat} {w1 wx W5 w5 : World} {b4 : Nat} {r1 : Bool} {p1 : Option Addr} {k1 c1 n : Nat} {q : Nat → Int} {v : Int} (hn : n ≤ L) (hW : Below w1.heap.size w1 W5) (hD : WRes (n + 2) W5 w5 r1 p1 k1 c1 q ∧ wv r1 q k1 = v) (hT : Turned w1.heap.size W5.heap.size w5 wx) (hb : Bx wx b4 r1 p1 k1 c1) : FlAt L w1 wx b4 r1 p1 k1 c1 v := by
  have hQ := hD.1.res.turned hW hT
  have := hQ.le
  exact ⟨hb, hQ.bel, ⟨q, hQ.rd, hQ.lm, hD.1.wfB, hQ.ncap, hQ.nil', hD.2⟩, by omega⟩

end Go.Proofs.YthofcgpghbaccaaGreat
namespace Go.Proofs.YthofcgpghbaccaaGreat
open Go.RowKit

set_option maxRecDepth 100000 in
set_option maxHeartbeats 400000 in
theorem rclone_c (ao : Option Addr) (n cap : Nat) (f : Nat → Int) (w : World) (hn : n ≤ 1048576) (hr : Rd .u64 w ao n f) (hnil : ao = none → n = 0 ∧ cap = 0) :
    Calls Tryz.prog 80 #[.slice ao n cap] w fun e w' => ∃ ao' cap', e = .returned (.slice ao' n cap') ∧ Below w.heap.size w w' ∧ Own .u64 74 w' w.heap.size (.slice ao' n cap') n f := by
  cases ao with
  | none =>
    obtain ⟨rfl, rfl⟩ := hnil rfl
    go_enter Tryz.func80, Tryz.ntmps80
    obtain ⟨i0, hi, hz0, hz1, hz2⟩ := info_parts Tryz.infoU64
    go_wp2_with (at_builtin; refine wpList_append_own_none rfl (.const (.slice none 0 0)) (.tmp 3) 23 rfl w.heap.size 74 i0 1 Tryz.underlying23 hi (.slice none 0 0) 0 [] rfl (World.ownsRow_nil _ _ _ _) rfl ?_)
    go_ret
    exact ⟨none, 0, rfl, Below.refl _ _, own_nil _ _ _ _ _⟩
  | some ad =>
    clear hnil
    have HR := hid hr
    clear hr
    go_enter Tryz.func80, Tryz.ntmps80
    obtain ⟨i0, hi, hz0, hz1, hz2⟩ := info_parts Tryz.infoU64
    go_wp2_with (at_builtin; refine wpList_append_own w rfl (.const (.slice none 0 0)) (.tmp 3) 23 rfl w.heap.size 74 i0 (.int .u64 0) 1 8 Tryz.underlying23 hi hz0 hz1 hz2 rfl (by decide) (.slice none 0 0) 0 [] rfl (World.ownsRow_nil _ _ _ _) ad n cap (lst .u64 f n) rfl (by rw [lst_length, Nat.mul_one]) ?c1 (lst_one _ _ _) ?c2 ?c3 (Nat.le_refl _) ?_)
    case c1 =>
      intro j u hu
      obtain ⟨hj, rfl⟩ := lst_getE hu
      obtain ⟨b, o, e, hc⟩ := HR.out j hj
      cases e
      rw [addr_add]; exact hc
    case c2 => unfold maxLen; omega
    case c3 => omega
    intro v' w' hown hgr _
    have hown' : Own .u64 74 w' w.heap.size v' n f := hown
    have hbel : Below w.heap.size w w' := (Below.refl _ _).grown hgr (Nat.le_refl _) (fun k h => by simp [Value.ownBlock] at h)
    obtain ⟨ao', cap', hv, hcc, hnn, hml, hrd, hlt⟩ := hown'.shape
    rw [hv] at hown' ⊢
    clear hown hgr hv
    have HO := hid hown'
    clear hown'
    go_wp2
    go_ret
    exact ⟨ao', cap', rfl, hbel, HO.out⟩
theorem cloneWn_c {w s x n c f v} (h : Wn w s x n c f v) (hn : n ≤ 1048576) :
    Calls Tryz.prog 80 #[.slice x n c] w fun e w' => ∃ z c', e = .returned (.slice z n c') ∧ Below w.heap.size w w' ∧ Hid (Wn w' s z n c' f v) :=
  (rclone_c x n c f w (by omega) h.rd h.nil).mono (fun _ _ ⟨z, c', h1, h2, h3⟩ => ⟨z, c', h1, h2, h3.slice.2.2.2.1, h.lm, h.wf, ⟨h3.slice.1, h3.slice.2.1⟩, h3.slice.2.2.1, h.val⟩)

set_option maxRecDepth 100000 in
set_option maxHeartbeats 4000000 in
theorem rCopy_n {L : Nat} {w : World} {sa : Bool} {xa : Option Addr} {na ca : Nat} {fa : Nat → Int} {ya : Option Addr} {ma da : Nat} {ga : Nat → Int} {a : Rat} (ha : Rn L w sa xa na ca fa ya ma da ga a) (hL : L ≤ 200000) :
    Calls Tryz.prog 51 #[.agg #[.bool sa, .slice xa na ca, .slice ya ma da]] w fun e w' => ∃ x c y d, e = .returned (.agg #[.bool sa, .slice x na c, .slice y ma d]) ∧ Below w.heap.size w w' ∧ Rn L w' sa x na c fa y ma d ga a := by
  have b1 := ha.ln; have b2 := ha.ld
  have h1 := (ha.alloc (.cells #[.bool sa, .slice xa na ca, .slice ya ma da] 25)).alloc (.cells #[.bool false, .slice none 0 0, .slice none 0 0] 25)
  have h3 := ob_new (w.alloc (.cells #[.bool sa, .slice xa na ca, .slice ya ma da] 25)) 25
  rw [size_alloc1] at h3
  have h4 := below_alloc (below_alloc (Below.refl w.heap.size w) (.cells #[.bool sa, .slice xa na ca, .slice ya ma da] 25)) (.cells #[.bool false, .slice none 0 0, .slice none 0 0] 25)
  have h5 := (bx3_at w (.bool sa) (.slice xa na ca) (.slice ya ma da) 25).alloc (.cells #[.bool false, .slice none 0 0, .slice none 0 0] 25)
  clear ha
  go_enter Tryz.func51, Tryz.ntmps51
  go_wp2_with fail
  generalize (w.alloc (.cells #[.bool sa, .slice xa na ca, .slice ya ma da] 25)).alloc (.cells #[.bool false, .slice none 0 0, .slice none 0 0] 25) = w1 at *
  have HA := hid h1; have OB := h3; have HW := hid h4
  obtain ⟨hz, z0, z1, z2, zf⟩ := h3
  obtain ⟨hy, x0, x1, x2⟩ := h5
  clear h1 h4
  have C1 : Hid (∀ W, Below w1.heap.size w1 W → Calls Tryz.prog 80 #[.slice xa na ca] W fun e w' => ∃ z c', e = .returned (.slice z na c') ∧ Below W.heap.size W w' ∧ Hid (Wn w' sa z na c' fa a.num)) := fun W hW => cloneWn_c (HA.out.num.below hW) (by omega)
  have C2 : Hid (∀ W, Below w1.heap.size w1 W → Calls Tryz.prog 80 #[.slice ya ma da] W fun e w' => ∃ z c', e = .returned (.slice z ma c') ∧ Below W.heap.size W w' ∧ Hid (Wn w' false z ma c' ga (a.den : Int))) := fun W hW => cloneWn_c (HA.out.den.below hW) (by omega)
  go_region_held3 (fun w' => w'.cell? ⟨w.heap.size, 0, none⟩ = some (.bool sa) ∧ w'.cell? ⟨w.heap.size, 1, none⟩ = some (.slice xa na ca) ∧ w'.cell? ⟨w.heap.size, 2, none⟩ = some (.slice ya ma da) ∧ (w'.cell? ⟨w.heap.size + 1, 0, none⟩).isSome = true ∧ (w'.cell? ⟨w.heap.size + 1, 1, none⟩).isSome = true ∧ (w'.cell? ⟨w.heap.size + 1, 2, none⟩).isSome = true ∧ w'.frozen? ⟨w.heap.size + 1, 0, none⟩ = false ∧ w'.frozen? ⟨w.heap.size + 1, 1, none⟩ = false ∧ w'.frozen? ⟨w.heap.size + 1, 2, none⟩ = false)
    (refine ⟨?_, ?_, ?_, ?_, ?_, ?_, ?_, ?_, ?_⟩ <;> repeat (with_reducible first | assumption | exact zf _ | exact kI0 z0 | exact kI0 z1 | exact kI0 z2 | exact tf _ | exact kI0 t0 | exact kI0 t1 | exact kI0 t2 | exact uf _ | exact kI0 u0 | exact kI0 u1 | exact kI0 u2 | refine kCd ?_ | refine kId ?_ | refine kFd ?_ | refine kCs (by simp only [ne_eq]; omega) ?_ | refine kIs ?_ | refine kFs ?_ | refine kCb (by assumption) ?_ | refine kIb (by assumption) ?_))
    (first
      | (go_at_call 80; with_reducible refine (C1.out _ (by repeat (with_reducible first | assumption | exact Below.refl _ _ | refine Below.drew ?_ | refine kBa ?_ | refine kBb (by assumption) ?_))).mono ?_; rintro e w5 ⟨zp, cp, rfl, hb5, HP⟩; have TU : Ob w5 (w.heap.size + 1) := (by repeat (with_reducible first | exact OB | exact TU | exact TV | refine Ob.drew ?_ | refine kOb (by assumption) ?_)); obtain ⟨_, t0, t1, t2, tf⟩ := id TU)
      | (go_at_call 80; with_reducible refine (C2.out _ (by repeat (with_reducible first | assumption | exact Below.refl _ _ | refine Below.drew ?_ | refine kBa ?_ | refine kBb (by assumption) ?_))).mono ?_; rintro e w6 ⟨zq, cq, rfl, hb6, HQ⟩; have TV : Ob w6 (w.heap.size + 1) := (by repeat (with_reducible first | exact OB | exact TU | exact TV | refine Ob.drew ?_ | refine kOb (by assumption) ?_)); obtain ⟨_, u0, u1, u2, uf⟩ := id TV))
  have WA := HP.out.below hb6
  have hb : Below w1.heap.size w1 w6 := (by repeat (with_reducible first | assumption | exact Below.refl _ _ | refine Below.drew ?_ | refine kBa ?_ | refine kBb (by assumption) ?_))
  go_wp2
  exact bodyPost_ret (v := .agg #[.bool sa, .slice zp na cp, .slice zq ma cq]) (by simp [results, Tryz.results51, go_sem, u0, u1, u2]) rfl ⟨zp, cp, zq, cq, rfl, below_st (HW.out.trans (hb.mono HW.out.size)) (by omega), TV.wn WA, TV.wn HQ.out, b1, b2⟩

end Go.Proofs.YthofcgpghbaccaaGreat
namespace Go.Proofs.YthofcgpghbaccaaGreat
open Go.RowKit

/-- Three cells from place o of block b on. -/
structure C3 (w : World) (b o : Nat) (a0 a1 a2 : Value) : Prop where
  x0 : w.cell? ⟨b, o, none⟩ = some a0
  x1 : w.cell? ⟨b, o + 1, none⟩ = some a1
  x2 : w.cell? ⟨b, o + 2, none⟩ = some a2
theorem C3.below {w w' b o a0 a1 a2} (h : C3 w b o a0 a1 a2) (hb : Below w.heap.size w w') : C3 w' b o a0 a1 a2 := ⟨kCb hb h.x0, kCb hb h.x1, kCb hb h.x2⟩
/-- A list of k numbers that can be read, whatever they are. -/
def Rl (w : World) (ao : Option Addr) (k : Nat) (X : Nat → Nm) : Prop :=
  ∀ j, j < k → ∃ b o, ao = some ⟨b, o, none⟩ ∧ C3 w b (o + j * 3) (.bool (X j).s) (.slice (X j).x (X j).n (X j).c) (.slice (X j).y (X j).m (X j).d) ∧ NmR w (X j)
theorem Rl.below {w w' ao k X} (h : Rl w ao k X) (hb : Below w.heap.size w w') : Rl w' ao k X := fun j hj => by
  obtain ⟨b, o, e, h1, h2⟩ := h j hj
  exact ⟨b, o, e, h1.below hb, h2.below hb⟩
/-- All in form from number i on. -/
def afr (X : Nat → Nm) : Nat → Nat → Bool
  | 0, _ => true
  | r + 1, i => nfB (X i) && afr X r (i + 1)
def afB (k : Nat) (X : Nat → Nm) : Bool := afr X k 0
theorem box3 {w w1 : World} {a0 a1 a2 : Value} {t : TypeId} (hb : Below (w.alloc (.cells #[a0, a1, a2] t)).heap.size (w.alloc (.cells #[a0, a1, a2] t)) w1) : w.heap.size < w1.heap.size ∧ w1.cell? ⟨w.heap.size, 0, none⟩ = some a0 ∧ w1.cell? ⟨w.heap.size, 1, none⟩ = some a1 ∧ w1.cell? ⟨w.heap.size, 2, none⟩ = some a2 ∧ Below w.heap.size w w1 := by
  have hz := hb.size
  simp at hz
  exact ⟨by omega, kCb hb (by simp [go_sem]), kCb hb (by simp [go_sem]), kCb hb (by simp [go_sem]), (below_alloc (Below.refl _ w) _).trans (hb.mono (by simp))⟩

set_option maxRecDepth 100000 in
set_option maxHeartbeats 4000000 in
theorem allForm_c {w : World} {ao : Option Addr} {k cap : Nat} {X : Nat → Nm} (h : Rl w ao k X) (hk : k ≤ 1048576) :
    Calls Tryz.prog 56 #[.slice ao k cap] w fun e w' => e = .returned (.bool (afB k X)) ∧ Below w.heap.size w w' := by
  have H := hid h
  clear h
  go_enter Tryz.func56, Tryz.ntmps56
  go_wp2_with fail
  go_loopw [7] (fun t wr => ∃ (i : Nat), i ≤ k ∧ t = .int .i64 i ∧ Hid (Below w.heap.size w wr) ∧ Hid (afB k X = afr X (k - i) i)) (fun t _ => k - (intOf t).toNat)
  case atStart => exact ⟨0, by omega, rfl, Below.refl _ _, rfl⟩
  case round =>
    obtain ⟨i, hi, rfl, HB, HT⟩ := hrel
    by_cases hlt : i < k
    · obtain ⟨b, o, rfl, hc, hn, hn1, hn2⟩ := (H.out.below HB.out) i hlt
      obtain ⟨r, hr⟩ : ∃ r, k - i = r + 1 := ⟨k - i - 1, by omega⟩
      have hT : afB k X = (nfB (X i) && afr X r (i + 1)) := by rw [HT.out, hr]; rfl
      have hr2 : k - (i + 1) = r := by omega
      obtain ⟨⟨s, x, n, c, f, y, m, d, g⟩, hTi⟩ : ∃ t, X i = t := ⟨_, rfl⟩
      rw [hTi] at hc hn hn1 hn2 hT
      obtain ⟨x0, x1, x2⟩ := hc
      replace x0 : wr.cell? ⟨b, o + i * 3, none⟩ = some (.bool s) := x0
      replace x1 : wr.cell? ⟨b, o + i * 3 + 1, none⟩ = some (.slice x n c) := x1
      replace x2 : wr.cell? ⟨b, o + i * 3 + 2, none⟩ = some (.slice y m d) := x2
      replace hn : Rw wr x n c f y m d g := hn
      replace hn1 : n ≤ 65536 := hn1
      replace hn2 : m ≤ 65536 := hn2
      have hblk : Below wr.heap.size wr (wr.alloc (.cells #[.bool s, .slice x n c, .slice y m d] 25)) := below_alloc (Below.refl _ _) _
      have CF := hid (rForm_c (s := s) (hn.below hblk) (by omega) (by omega))
      have HTi := hid hT; have HR2 := hid hr2
      have i1 : ((i : Nat) : Int) < ((k : Nat) : Int) := by omega
      clear hT hr2 hTi hr hn hblk
      cases hf : rfB s f n g m
      · have CF2 := CF
        rw [hf] at CF2
        have HNF : Hid (nfB ⟨s, x, n, c, f, y, m, d, g⟩ = false) := hf
        clear CF hf
        go_wp2_with fail
        refine CF2.out.mono ?_
        rintro e w1 ⟨rfl, hb1⟩
        obtain ⟨_, _, _, _, hb2⟩ := box3 hb1
        go_wp2
        go_ret
        refine ⟨?_, HB.out.trans (hb2.mono HB.out.size)⟩
        rw [HTi.out, HNF.out]; rfl
      · have CF2 := CF
        rw [hf] at CF2
        have HNF : Hid (nfB ⟨s, x, n, c, f, y, m, d, g⟩ = true) := hf
        clear CF hf
        go_wp2_with fail
        refine CF2.out.mono ?_
        rintro e w1 ⟨rfl, hb1⟩
        obtain ⟨_, _, _, _, hb2⟩ := box3 hb1
        have HB2 := hid (HB.out.trans (hb2.mono HB.out.size))
        clear hb1 hb2
        go_wp2
        go_roundw
        case rel =>
          refine ⟨i + 1, by omega, by go_num, HB2.out, ?_⟩
          show _ = _
          rw [HTi.out, HNF.out, HR2.out]; rfl
        case measure => simp [intOf]; omega
    · have e1 : i = k := by omega
      have HTe : Hid (afB k X = true) := by
        show _ = _
        rw [HT.out, e1, Nat.sub_self]; rfl
      have i2 : ¬ (((i : Nat) : Int) < ((k : Nat) : Int)) := by omega
      clear e1 HT
      go_wp2
      go_ret
      refine ⟨?_, HB.out⟩
      rw [HTe.out]; rfl

set_option maxRecDepth 100000 in
theorem allBelow_c {w : World} {ao : Option Addr} {k cap : Nat} {col : Nat → Int} {T : Nat → Nm} {z : Int} (h : Tl w ao k col T) (hk : k ≤ 1048576) :
    Calls Tryz.prog 55 #[.slice ao k cap, .int .i64 z] w fun e w' => e = .returned (.bool (decide (k = 0) || decide (col (k - 1) < z))) ∧ w' = w := by
  by_cases h0 : k = 0
  · subst h0
    go_enter Tryz.func55, Tryz.ntmps55
    go_wp2
    go_ret
    exact ⟨rfl, rfl⟩
  · obtain ⟨r, rfl⟩ : ∃ r, k = r + 1 := ⟨k - 1, by omega⟩
    obtain ⟨b, o, rfl, hc, _⟩ := h r (by omega)
    have x0 := hc.x0
    obtain ⟨y, hy⟩ : ∃ y, col r = y := ⟨_, rfl⟩
    have e1 : (decide (r + 1 = 0) || decide (col (r + 1 - 1) < z)) = decide (y < z) := by rw [← hy]; simp
    rw [e1]
    rw [hy] at x0
    have hb0 : (((r + 1 : Nat) : Int) == 0) = false := by simp; omega
    clear h hc e1 hy
    by_cases hyz : y < z
    · rw [show decide (y < z) = true from decide_eq_true hyz]
      go_enter Tryz.func55, Tryz.ntmps55
      go_wp2
      go_ret
      exact ⟨rfl, rfl⟩
    · rw [show decide (y < z) = false from decide_eq_false hyz]
      go_enter Tryz.func55, Tryz.ntmps55
      go_wp2
      go_ret
      exact ⟨rfl, rfl⟩

set_option maxRecDepth 100000 in
set_option maxHeartbeats 4000000 in
theorem vplus_c {L : Nat} {w : World} {sa : Bool} {xa : Option Addr} {na ca : Nat} {fa : Nat → Int} {ya : Option Addr} {ma da : Nat} {ga : Nat → Int} {a : Rat} {sb : Bool} {xb : Option Addr} {nb cb : Nat} {fb : Nat → Int} {yb : Option Addr} {mb db : Nat} {gb : Nat → Int} {b : Rat} (ha : Rn L w sa xa na ca fa ya ma da ga a) (hb : Rn L w sb xb nb cb fb yb mb db gb b) (hL : L ≤ 200000) :
    Calls Tryz.prog 57 #[.agg #[.bool sa, .slice xa na ca, .slice ya ma da], .agg #[.bool sb, .slice xb nb cb, .slice yb mb db]] w fun e w' => RatAns (2 * L + 1) w w' e (a + b) := by
  have h1 := ((ha.alloc (.cells #[.bool sa, .slice xa na ca, .slice ya ma da] 25)).alloc (.cells #[.bool sb, .slice xb nb cb, .slice yb mb db] 25)).alloc (.cells #[.bool false, .slice none 0 0, .slice none 0 0] 25)
  have h2 := ((hb.alloc (.cells #[.bool sa, .slice xa na ca, .slice ya ma da] 25)).alloc (.cells #[.bool sb, .slice xb nb cb, .slice yb mb db] 25)).alloc (.cells #[.bool false, .slice none 0 0, .slice none 0 0] 25)
  have h3 := ob_new ((w.alloc (.cells #[.bool sa, .slice xa na ca, .slice ya ma da] 25)).alloc (.cells #[.bool sb, .slice xb nb cb, .slice yb mb db] 25)) 25
  rw [size_alloc1, size_alloc1] at h3
  have h4 := below_alloc (below_alloc (below_alloc (Below.refl w.heap.size w) (.cells #[.bool sa, .slice xa na ca, .slice ya ma da] 25)) (.cells #[.bool sb, .slice xb nb cb, .slice yb mb db] 25)) (.cells #[.bool false, .slice none 0 0, .slice none 0 0] 25)
  clear ha hb
  go_enter Tryz.func57, Tryz.ntmps57
  go_wp2_with fail
  generalize ((w.alloc (.cells #[.bool sa, .slice xa na ca, .slice ya ma da] 25)).alloc (.cells #[.bool sb, .slice xb nb cb, .slice yb mb db] 25)).alloc (.cells #[.bool false, .slice none 0 0, .slice none 0 0] 25) = w1 at *
  have OB1 := hid h3; have HW1 := hid h4
  refine (rAdd_n h1 h2 hL).mono ?_
  clear h1 h2 h3 h4
  rintro e w2 ⟨s, x, n, c, f, y, m, d, g, rfl, hb2, hq⟩
  have hob := OB1.out.below hb2
  have hbw := HW1.out.trans (hb2.mono HW1.out.size)
  obtain ⟨hz, z0, z1, z2, zf⟩ := OB1.out.below hb2
  have HQ := hid hq; have HOB := hid hob; have HBW := hid hbw
  clear hq hob hbw hb2 OB1 HW1
  go_wp2
  exact bodyPost_ret (v := .agg #[.bool s, .slice x n c, .slice y m d]) (by simp [results, Tryz.results57, go_sem, z0, z1, z2, hz]) rfl ⟨s, x, n, c, f, y, m, d, g, rfl, below_alloc (below_st HBW.out (by omega)) _, (HOB.out.rn HQ.out).alloc _⟩

set_option maxRecDepth 100000 in
set_option maxHeartbeats 4000000 in
theorem vtimes_c {L : Nat} {w : World} {sa : Bool} {xa : Option Addr} {na ca : Nat} {fa : Nat → Int} {ya : Option Addr} {ma da : Nat} {ga : Nat → Int} {a : Rat} {sb : Bool} {xb : Option Addr} {nb cb : Nat} {fb : Nat → Int} {yb : Option Addr} {mb db : Nat} {gb : Nat → Int} {b : Rat} (ha : Rn L w sa xa na ca fa ya ma da ga a) (hb : Rn L w sb xb nb cb fb yb mb db gb b) (hL : L ≤ 200000) :
    Calls Tryz.prog 58 #[.agg #[.bool sa, .slice xa na ca, .slice ya ma da], .agg #[.bool sb, .slice xb nb cb, .slice yb mb db]] w fun e w' => RatAns (2 * L + 1) w w' e (a * b) := by
  have h1 := ((ha.alloc (.cells #[.bool sa, .slice xa na ca, .slice ya ma da] 25)).alloc (.cells #[.bool sb, .slice xb nb cb, .slice yb mb db] 25)).alloc (.cells #[.bool false, .slice none 0 0, .slice none 0 0] 25)
  have h2 := ((hb.alloc (.cells #[.bool sa, .slice xa na ca, .slice ya ma da] 25)).alloc (.cells #[.bool sb, .slice xb nb cb, .slice yb mb db] 25)).alloc (.cells #[.bool false, .slice none 0 0, .slice none 0 0] 25)
  have h3 := ob_new ((w.alloc (.cells #[.bool sa, .slice xa na ca, .slice ya ma da] 25)).alloc (.cells #[.bool sb, .slice xb nb cb, .slice yb mb db] 25)) 25
  rw [size_alloc1, size_alloc1] at h3
  have h4 := below_alloc (below_alloc (below_alloc (Below.refl w.heap.size w) (.cells #[.bool sa, .slice xa na ca, .slice ya ma da] 25)) (.cells #[.bool sb, .slice xb nb cb, .slice yb mb db] 25)) (.cells #[.bool false, .slice none 0 0, .slice none 0 0] 25)
  clear ha hb
  go_enter Tryz.func58, Tryz.ntmps58
  go_wp2_with fail
  generalize ((w.alloc (.cells #[.bool sa, .slice xa na ca, .slice ya ma da] 25)).alloc (.cells #[.bool sb, .slice xb nb cb, .slice yb mb db] 25)).alloc (.cells #[.bool false, .slice none 0 0, .slice none 0 0] 25) = w1 at *
  have OB1 := hid h3; have HW1 := hid h4
  refine (rMul_n h1 h2 hL).mono ?_
  clear h1 h2 h3 h4
  rintro e w2 ⟨s, x, n, c, f, y, m, d, g, rfl, hb2, hq⟩
  have hob := OB1.out.below hb2
  have hbw := HW1.out.trans (hb2.mono HW1.out.size)
  obtain ⟨hz, z0, z1, z2, zf⟩ := OB1.out.below hb2
  have HQ := hid hq; have HOB := hid hob; have HBW := hid hbw
  clear hq hob hbw hb2 OB1 HW1
  go_wp2
  exact bodyPost_ret (v := .agg #[.bool s, .slice x n c, .slice y m d]) (by simp [results, Tryz.results58, go_sem, z0, z1, z2, hz]) rfl ⟨s, x, n, c, f, y, m, d, g, rfl, below_alloc (below_st HBW.out (by omega)) _, (HOB.out.rn HQ.out).alloc _⟩
end Go.Proofs.YthofcgpghbaccaaGreat
namespace Go.Proofs.YthofcgpghbaccaaGreat
open Go.RowKit

/-- Two boxes of three cells. -/
theorem two_new {w w1 : World} {a0 a1 a2 b0 b1 b2 : Value} {t : TypeId} (hb : Below ((w.alloc (.cells #[a0, a1, a2] t)).alloc (.cells #[b0, b1, b2] t)).heap.size ((w.alloc (.cells #[a0, a1, a2] t)).alloc (.cells #[b0, b1, b2] t)) w1) :
    Bx3 w1 w.heap.size a0 a1 a2 ∧ Bx3 w1 (w.heap.size + 1) b0 b1 b2 ∧ Below w.heap.size w w1 := by
  have h2 := bx3_at (w.alloc (.cells #[a0, a1, a2] t)) b0 b1 b2 t
  rw [size_alloc1] at h2
  exact ⟨((bx3_at w a0 a1 a2 t).alloc _).below hb, h2.below hb, (below_alloc (below_alloc (Below.refl w.heap.size w) _) _).trans (hb.mono (by simp; omega))⟩
theorem beq_bool_true {s t : Bool} (h : s = t) : (s == t) = true := by subst h; cases s <;> rfl
theorem beq_bool_false {s t : Bool} (h : ¬ s = t) : (s == t) = false := by cases s <;> cases t <;> first | rfl | exact absurd rfl h
set_option maxHeartbeats 1000000 in
theorem rSame_c (sa : Bool) (xa ya : Option Addr) (na ca ma da : Nat) (fa ga : Nat → Int) (sb : Bool) (xb yb : Option Addr) (nb cb mb db : Nat) (fb gb : Nat → Int) (w : World) (h1 : Rd .u64 w xa na fa) (h2 : Rd .u64 w ya ma ga) (h3 : Rd .u64 w xb nb fb) (h4 : Rd .u64 w yb mb gb) (l1 : na ≤ 140737488355328) (l2 : ma ≤ 140737488355328) (l3 : nb ≤ 140737488355328) (l4 : mb ≤ 140737488355328) :
    Calls Tryz.prog 22 #[.agg #[.bool sa, .slice xa na ca, .slice ya ma da], .agg #[.bool sb, .slice xb nb cb, .slice yb mb db]] w fun e w' => ∃ b, e = .returned (.bool b) ∧ Below w.heap.size w w' ∧ (b = true ↔ sa = sb ∧ Alk na nb fa fb ∧ Alk ma mb ga gb) := by
  have H1 := hid h1; have H2 := hid h2; have H3 := hid h3; have H4 := hid h4
  clear h1 h2 h3 h4
  by_cases hs : sa = sb
  · have hse := beq_bool_true hs
    have HS := hid hs
    clear hs
    go_enter Tryz.func22, Tryz.ntmps22
    go_wp2_with fail
    refine (same_c xa xb na nb ca cb fa fb _ l1 l3 ((H1.out.alloc _).alloc _) ((H3.out.alloc _).alloc _)).mono ?_
    rintro e w1 ⟨⟨q, hq⟩, b, rfl, hb1⟩
    obtain ⟨⟨za, x0, x1, x2⟩, ⟨zb, y0, y1, y2⟩, hw⟩ := two_new (drewN_below hq)
    have HW1 := hid hw; have HB1 := hid hb1
    clear hq hw hb1
    cases b
    · go_wp2
      go_ret
      exact ⟨false, rfl, HW1.out, (fun h => by cases h), fun h => HB1.out.2 h.2.1⟩
    · go_wp2_with fail
      refine (same_c ya yb ma mb da db ga gb _ l2 l4 (H2.out.below HW1.out (Nat.le_refl _)) (H4.out.below HW1.out (Nat.le_refl _))).mono ?_
      rintro e w2 ⟨⟨q, hq⟩, b, rfl, hb2⟩
      have HW2 := hid (HW1.out.trans ((drewN_below hq).mono HW1.out.size)); have HB2 := hid hb2
      clear hq hb2
      go_wp2
      go_ret
      exact ⟨b, rfl, HW2.out, fun h => ⟨HS.out, HB1.out.1 (by simp), HB2.out.1 h⟩, fun h => HB2.out.2 h.2.2⟩
  · have hse := beq_bool_false hs
    have HS := hid hs
    clear hs
    go_enter Tryz.func22, Tryz.ntmps22
    go_wp2
    go_ret
    exact ⟨false, rfl, below_alloc (below_alloc (Below.refl _ _) _) _, (fun h => by cases h), fun h => absurd h.1 HS.out⟩
theorem rSame_n {L L' w sa xa na ca fa ya ma da ga a sb xb nb cb fb yb mb db gb b} (ha : Rn L w sa xa na ca fa ya ma da ga a) (hb : Rn L' w sb xb nb cb fb yb mb db gb b) (h1 : L ≤ 4096) (h2 : L' ≤ 4096) :
    Calls Tryz.prog 22 #[.agg #[.bool sa, .slice xa na ca, .slice ya ma da], .agg #[.bool sb, .slice xb nb cb, .slice yb mb db]] w fun e w' => e = .returned (.bool (decide (a = b))) ∧ Below w.heap.size w w' := by
  have l1 := ha.ln; have l2 := ha.ld; have l3 := hb.ln; have l4 := hb.ld
  refine (rSame_c sa xa ya na ca ma da fa ga sb xb yb nb cb mb db fb gb w ha.num.rd ha.den.rd hb.num.rd hb.den.rd (by omega) (by omega) (by omega) (by omega)).mono ?_
  rintro e w' ⟨c, rfl, h3, h4⟩
  refine ⟨?_, h3⟩
  have h5 := h4.trans (ha.inj hb)
  cases c
  · have : ¬ (a = b) := fun h => by have := h5.2 h; cases this
    simp [this]
  · simp [h5.1 rfl]
def lg (n m k : Nat) : Bool := decide (n ≤ k) && decide (m ≤ k)
theorem rLight_c (s : Bool) (x y : Option Addr) (n c m d : Nat) (w : World) (hn : n ≤ 9223372036854775807) (hm : m ≤ 9223372036854775807) :
    Calls Tryz.prog 10 #[.agg #[.bool s, .slice x n c, .slice y m d], .int .i64 20] w fun e w' => e = .returned (.bool (lg n m 20)) ∧ Below w.heap.size w w' := by
  by_cases h1 : n ≤ 20
  · have d1 : decide ((n : Int) ≤ 20) = true := by simp; omega
    by_cases h2 : m ≤ 20
    · have d2 : decide ((m : Int) ≤ 20) = true := by simp; omega
      rw [show lg n m 20 = true by simp [lg, h1, h2]]
      go_enter Tryz.func10, Tryz.ntmps10
      go_wp2
      go_ret
      exact ⟨rfl, below_alloc (Below.refl _ _) _⟩
    · have d2 : decide ((m : Int) ≤ 20) = false := by simp; omega
      rw [show lg n m 20 = false by simp [lg, h2]]
      go_enter Tryz.func10, Tryz.ntmps10
      go_wp2
      go_ret
      exact ⟨rfl, below_alloc (Below.refl _ _) _⟩
  · have d1 : decide ((n : Int) ≤ 20) = false := by simp; omega
    rw [show lg n m 20 = false by simp [lg, h1]]
    go_enter Tryz.func10, Tryz.ntmps10
    go_wp2
    go_ret
    exact ⟨rfl, below_alloc (Below.refl _ _) _⟩
end Go.Proofs.YthofcgpghbaccaaGreat

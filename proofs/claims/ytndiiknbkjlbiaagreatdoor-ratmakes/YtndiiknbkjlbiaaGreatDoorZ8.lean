/-
  The walk of package rat's mul. Walks of package rat's calls Form, Add, Sub, Mul, Quo on numbers in form; the document's Same and Light. Walks of the document's reference for whole: Form, From, Text, Read, DocText, DocRead. Walks of the document's reference for rat: word, Mk of short numbers. Walks of the document's reference for rat: Mk of short numbers. Walks of the document's reference for rat: To, DocMake of short numbers; the statements' own num. Walks of the statements' own num, and of package rat's calls Make and Floor. The walk of package rat's call Floor.
-/
import Derived.Test.YtndiiknbkjlbiaaGreatDoorZ7
import Derived.Test.YtndiiknbkjlbiaaGreatDoorZ6
import Derived.Test.YtndiiknbkjlbiaaGreatDoorZ3
namespace Go.Proofs.YtndiiknbkjlbiaaGreatDoor
open Go.RowKit

theorem mul_made {a b : Rat} {s t : Bool} (ha : a.num = sg s a.num.natAbs) (hb : b.num = sg t b.num.natAbs) :
    sg (s != t) (a.num.natAbs / a.num.natAbs.gcd b.den * (b.num.natAbs / b.num.natAbs.gcd a.den)) = (a * b).num ∧ a.den / b.num.natAbs.gcd a.den * (b.den / a.num.natAbs.gcd b.den) = (a * b).den := by
  have := rmul (a := a) (b := b) (s := s) (t := t) (G := a.num.natAbs.gcd b.den) (H := b.num.natAbs.gcd a.den) (NA := a.num.natAbs / a.num.natAbs.gcd b.den) (NB := b.num.natAbs / b.num.natAbs.gcd a.den) (DA := a.den / b.num.natAbs.gcd a.den) (DB := b.den / a.num.natAbs.gcd b.den)
    (by rw [Nat.div_mul_cancel (Nat.gcd_dvd_left _ _)]; exact ha) (by rw [Nat.div_mul_cancel (Nat.gcd_dvd_left _ _)]; exact hb) rfl rfl (Nat.div_mul_cancel (Nat.gcd_dvd_right _ _)) (Nat.div_mul_cancel (Nat.gcd_dvd_right _ _))
  exact ⟨this.1.symm, this.2.symm⟩

set_option maxRecDepth 100000 in
set_option maxHeartbeats 4000000 in
theorem ratmul_c {L : Nat} {w : World} {sa : Bool} {xa : Option Addr} {na ca : Nat} {fa : Nat → Int} {ya : Option Addr} {ma da : Nat} {ga : Nat → Int} {a : Rat} {sb : Bool} {xb : Option Addr} {nb cb : Nat} {fb : Nat → Int} {yb : Option Addr} {mb db : Nat} {gb : Nat → Int} {b : Rat} (ha : Rn L w sa xa na ca fa ya ma da ga a) (hb : Rn L w sb xb nb cb fb yb mb db gb b) (hL : L ≤ 1000) :
    Calls Tryz.prog 85 #[.agg #[.bool sa, .slice xa na ca, .slice ya ma da], .agg #[.bool sb, .slice xb nb cb, .slice yb mb db]] w fun e w' => RatAns (2 * L + 1) w w' e (a * b) := by
  have b1 := ha.ln; have b2 := ha.ld; have b3 := hb.ln; have b4 := hb.ld
  have hbel := Below.refl (((w.alloc (.cells #[.bool sa, .slice xa na ca, .slice ya ma da] 24)).alloc (.cells #[.bool sb, .slice xb nb cb, .slice yb mb db] 24)).alloc (.cells #[.bool false, .slice none 0 0, .slice none 0 0] 24)).heap.size (((w.alloc (.cells #[.bool sa, .slice xa na ca, .slice ya ma da] 24)).alloc (.cells #[.bool sb, .slice xb nb cb, .slice yb mb db] 24)).alloc (.cells #[.bool false, .slice none 0 0, .slice none 0 0] 24))
  obtain ⟨t1, hw⟩ := three_new hbel
  have h1 := (((ha.alloc (.cells #[.bool sa, .slice xa na ca, .slice ya ma da] 24)).alloc (.cells #[.bool sb, .slice xb nb cb, .slice yb mb db] 24)).alloc (.cells #[.bool false, .slice none 0 0, .slice none 0 0] 24))
  have h2 := (((hb.alloc (.cells #[.bool sa, .slice xa na ca, .slice ya ma da] 24)).alloc (.cells #[.bool sb, .slice xb nb cb, .slice yb mb db] 24)).alloc (.cells #[.bool false, .slice none 0 0, .slice none 0 0] 24))
  clear hbel ha hb
  go_enter Tryz.func85, Tryz.ntmps85
  go_wp2_with fail
  generalize ((w.alloc (.cells #[.bool sa, .slice xa na ca, .slice ya ma da] 24)).alloc (.cells #[.bool sb, .slice xb nb cb, .slice yb mb db] 24)).alloc (.cells #[.bool false, .slice none 0 0, .slice none 0 0] 24) = w1 at *
  have HA1 := hid h1; have HB1 := hid h2; have T1 := hid t1; have HW1 := hid hw
  obtain ⟨hz, x0, x1, x2, y0, y1, y2, z0, z1, z2, zf⟩ := t1
  have hza : w.heap.size < w1.heap.size := by omega
  have hzb : w.heap.size + 1 < w1.heap.size := by omega
  clear h1 h2 hw
  have hG0 : 0 < a.num.natAbs.gcd b.den := Nat.gcd_pos_of_pos_right _ b.den_pos
  have hH0 : 0 < b.num.natAbs.gcd a.den := Nat.gcd_pos_of_pos_right _ a.den_pos
  have C1 : Hid (∀ W, Below w1.heap.size w1 W → Calls Tryz.prog 59 #[.slice xa na ca, .slice yb mb db] W fun e w' => ∃ z k e' h, e = .returned (.slice z k e') ∧ Below W.heap.size W w' ∧ Hid (k ≤ L ∧ Wn w' false z k e' h (a.num.natAbs.gcd b.den : Nat))) := fun W hW => (ratGcd_c (HA1.out.num.mag.below hW) (HB1.out.den.below hW) (by omega) (by omega)).mono (fun e w' ⟨z, k, e', h, h1, h2, h3⟩ => ⟨z, k, e', h, h1, h2, Nat.le_trans (h3.len_le ((HB1.out.den.below hW).below h2) (Nat.gcd_le_right _ b.den_pos)) (by omega), h3⟩)
  have C2 : Hid (∀ W, Below w1.heap.size w1 W → Calls Tryz.prog 59 #[.slice xb nb cb, .slice ya ma da] W fun e w' => ∃ z k e' h, e = .returned (.slice z k e') ∧ Below W.heap.size W w' ∧ Hid (k ≤ L ∧ Wn w' false z k e' h (b.num.natAbs.gcd a.den : Nat))) := fun W hW => (ratGcd_c (HB1.out.num.mag.below hW) (HA1.out.den.below hW) (by omega) (by omega)).mono (fun e w' ⟨z, k, e', h, h1, h2, h3⟩ => ⟨z, k, e', h, h1, h2, Nat.le_trans (h3.len_le ((HA1.out.den.below hW).below h2) (Nat.gcd_le_right _ a.den_pos)) (by omega), h3⟩)
  go_region_held3 (fun w' => w'.cell? ⟨w.heap.size, 1, none⟩ = some (.slice xa na ca) ∧ w'.cell? ⟨w.heap.size + 1, 2, none⟩ = some (.slice yb mb db) ∧ w'.cell? ⟨w.heap.size + 1, 1, none⟩ = some (.slice xb nb cb) ∧ w'.cell? ⟨w.heap.size, 2, none⟩ = some (.slice ya ma da))
    (refine ⟨?_, ?_, ?_, ?_⟩ <;> repeat (with_reducible first | assumption | refine kCd ?_ | refine kCa ?_ | refine kCb (by assumption) ?_))
    (first
      | (go_at_call 59; with_reducible refine (C1.out _ (by repeat (with_reducible first | assumption | exact Below.refl _ _ | refine Below.drew ?_ | refine kBa ?_ | refine kBb (by assumption) ?_))).mono ?_; rintro e w2 ⟨zg, kg, cg, fg, rfl, hb2, HG⟩)
      | (go_at_call 59; with_reducible refine (C2.out _ (by repeat (with_reducible first | assumption | exact Below.refl _ _ | refine Below.drew ?_ | refine kBa ?_ | refine kBb (by assumption) ?_))).mono ?_; rintro e w3 ⟨zh, kh, ch, fh, rfl, hb3, HH⟩))
  have WG3 := hid (HG.out.2.below hb3); have WH3 := hid HH.out.2
  have hkg := HG.out.1; have hkh := HH.out.1
  have hb : Below w1.heap.size w1 w3 := (by repeat (with_reducible first | assumption | exact Below.refl _ _ | refine Below.drew ?_ | refine kBa ?_ | refine kBb (by assumption) ?_))
  clear HG HH C1 C2 hb2 hb3
  have HA3 := hid (HA1.out.below hb); have HB3 := hid (HB1.out.below hb); have T3 := hid (T1.out.below hb); have HW3 := hid (HW1.out.trans (hb.mono HW1.out.size))
  clear HA1 HB1 T1 HW1 hb
  clear hza hzb hz x0 x1 x2 y0 y1 y2 z0 z1 z2 zf
  obtain ⟨hz, x0, x1, x2, y0, y1, y2, z0, z1, z2, zf⟩ := T3.out
  have hza : w.heap.size < w3.heap.size := by omega
  have hzb : w.heap.size + 1 < w3.heap.size := by omega
  have C1 : Hid (∀ W, Below w3.heap.size w3 W → Calls Tryz.prog 116 #[.slice xa na ca, .slice zg kg cg] W fun e w' => ∃ z k e' h, e = .returned (.slice z k e') ∧ Below W.heap.size W w' ∧ Hid (k ≤ L ∧ Wn w' false z k e' h (a.num.natAbs / a.num.natAbs.gcd b.den : Nat))) := fun W hW => (over_c (HA3.out.num.mag.below hW) (WG3.out.below hW) hG0 (by omega) (by omega)).mono (fun e w' ⟨z, k, e', h, h1, h2, h3⟩ => ⟨z, k, e', h, h1, h2, by have := h3.out.1; omega, h3.out.2⟩)
  have C2 : Hid (∀ W, Below w3.heap.size w3 W → Calls Tryz.prog 116 #[.slice xb nb cb, .slice zh kh ch] W fun e w' => ∃ z k e' h, e = .returned (.slice z k e') ∧ Below W.heap.size W w' ∧ Hid (k ≤ L ∧ Wn w' false z k e' h (b.num.natAbs / b.num.natAbs.gcd a.den : Nat))) := fun W hW => (over_c (HB3.out.num.mag.below hW) (WH3.out.below hW) hH0 (by omega) (by omega)).mono (fun e w' ⟨z, k, e', h, h1, h2, h3⟩ => ⟨z, k, e', h, h1, h2, by have := h3.out.1; omega, h3.out.2⟩)
  go_wp2_with fail
  go_region_held3 (fun w' => w'.cell? ⟨w.heap.size, 1, none⟩ = some (.slice xa na ca) ∧ w'.cell? ⟨w.heap.size + 1, 1, none⟩ = some (.slice xb nb cb))
    (refine ⟨?_, ?_⟩ <;> repeat (with_reducible first | assumption | refine kCd ?_ | refine kCa ?_ | refine kCb (by assumption) ?_))
    (first
      | (go_at_call 116; with_reducible refine (C1.out _ (by repeat (with_reducible first | assumption | exact Below.refl _ _ | refine Below.drew ?_ | refine kBa ?_ | refine kBb (by assumption) ?_))).mono ?_; rintro e w4 ⟨zp, kp, cp, fp, rfl, hb4, HP⟩)
      | (go_at_call 116; with_reducible refine (C2.out _ (by repeat (with_reducible first | assumption | exact Below.refl _ _ | refine Below.drew ?_ | refine kBa ?_ | refine kBb (by assumption) ?_))).mono ?_; rintro e w5 ⟨zq, kq, cq, fq, rfl, hb5, HQ⟩)
      | (go_at_call 98; with_reducible refine (natMul_n (HP.out.2.below hb5) HQ.out.2 (by have := HP.out.1; omega) (by have := HQ.out.1; omega)).mono ?_; rintro e w6 ⟨zn, kn, cn, fn, rfl, hb6, hkn, hmn⟩))
  have WN6 := hid hmn
  have hkp := HP.out.1; have hkq := HQ.out.1
  have hb : Below w3.heap.size w3 w6 := (by repeat (with_reducible first | assumption | exact Below.refl _ _ | refine Below.drew ?_ | refine kBa ?_ | refine kBb (by assumption) ?_))
  clear HP HQ C1 C2 hb4 hb5 hb6 hmn
  have HA6 := hid (HA3.out.below hb); have HB6 := hid (HB3.out.below hb); have T6 := hid (T3.out.below hb); have WG6 := hid (WG3.out.below hb); have WH6 := hid (WH3.out.below hb); have HW6 := hid (HW3.out.trans (hb.mono HW3.out.size))
  clear HA3 HB3 T3 WG3 WH3 HW3 hb
  clear hza hzb hz x0 x1 x2 y0 y1 y2 z0 z1 z2 zf
  obtain ⟨hz, x0, x1, x2, y0, y1, y2, z0, z1, z2, zf⟩ := T6.out
  have hza : w.heap.size < w6.heap.size := by omega
  have hzb : w.heap.size + 1 < w6.heap.size := by omega
  have C1 : Hid (∀ W, Below w6.heap.size w6 W → Calls Tryz.prog 116 #[.slice ya ma da, .slice zh kh ch] W fun e w' => ∃ z k e' h, e = .returned (.slice z k e') ∧ Below W.heap.size W w' ∧ Hid (k ≤ L ∧ Wn w' false z k e' h (a.den / b.num.natAbs.gcd a.den : Nat))) := fun W hW => (over_c (HA6.out.den.below hW) (WH6.out.below hW) hH0 (by omega) (by omega)).mono (fun e w' ⟨z, k, e', h, h1, h2, h3⟩ => ⟨z, k, e', h, h1, h2, by have := h3.out.1; omega, h3.out.2⟩)
  have C2 : Hid (∀ W, Below w6.heap.size w6 W → Calls Tryz.prog 116 #[.slice yb mb db, .slice zg kg cg] W fun e w' => ∃ z k e' h, e = .returned (.slice z k e') ∧ Below W.heap.size W w' ∧ Hid (k ≤ L ∧ Wn w' false z k e' h (b.den / a.num.natAbs.gcd b.den : Nat))) := fun W hW => (over_c (HB6.out.den.below hW) (WG6.out.below hW) hG0 (by omega) (by omega)).mono (fun e w' ⟨z, k, e', h, h1, h2, h3⟩ => ⟨z, k, e', h, h1, h2, by have := h3.out.1; omega, h3.out.2⟩)
  go_wp2_with fail
  go_region_held3 (fun w' => w'.cell? ⟨w.heap.size, 2, none⟩ = some (.slice ya ma da) ∧ w'.cell? ⟨w.heap.size + 1, 2, none⟩ = some (.slice yb mb db))
    (refine ⟨?_, ?_⟩ <;> repeat (with_reducible first | assumption | refine kCd ?_ | refine kCa ?_ | refine kCb (by assumption) ?_))
    (first
      | (go_at_call 116; with_reducible refine (C1.out _ (by repeat (with_reducible first | assumption | exact Below.refl _ _ | refine Below.drew ?_ | refine kBa ?_ | refine kBb (by assumption) ?_))).mono ?_; rintro e w7 ⟨zr, kr, cr, fr, rfl, hb7, HP⟩)
      | (go_at_call 116; with_reducible refine (C2.out _ (by repeat (with_reducible first | assumption | exact Below.refl _ _ | refine Below.drew ?_ | refine kBa ?_ | refine kBb (by assumption) ?_))).mono ?_; rintro e w8 ⟨zs, ks, cs, fs, rfl, hb8, HQ⟩)
      | (go_at_call 98; with_reducible refine (natMul_n (HP.out.2.below hb8) HQ.out.2 (by have := HP.out.1; omega) (by have := HQ.out.1; omega)).mono ?_; rintro e w9 ⟨zd, kd, cd, fd, rfl, hb9, hkd, hmd⟩))
  have WD9 := hid hmd
  have hkr := HP.out.1; have hks := HQ.out.1
  have hb : Below w6.heap.size w6 w9 := (by repeat (with_reducible first | assumption | exact Below.refl _ _ | refine Below.drew ?_ | refine kBa ?_ | refine kBb (by assumption) ?_))
  clear HP HQ C1 C2 hb7 hb8 hb9 hmd
  have HA9 := hid (HA6.out.below hb); have HB9 := hid (HB6.out.below hb); have T9 := hid (T6.out.below hb); have WN9 := hid (WN6.out.below hb); have HW9 := hid (HW6.out.trans (hb.mono HW6.out.size))
  clear HA6 HB6 T6 WN6 HW6 hb
  clear hza hzb hz x0 x1 x2 y0 y1 y2 z0 z1 z2 zf
  obtain ⟨hz, x0, x1, x2, y0, y1, y2, z0, z1, z2, zf⟩ := T9.out
  have hza : w.heap.size < w9.heap.size := by omega
  have hzb : w.heap.size + 1 < w9.heap.size := by omega
  go_wp2_with fail
  refine (rsigned_c _ zn zd kn cn kd cd _ (by omega)).mono ?_
  rintro e w10 ⟨rs, rfl, HRS, hb⟩
  have HA10 := hid (HA9.out.below hb); have HB10 := hid (HB9.out.below hb); have T10 := hid (T9.out.below hb); have WN10 := hid (WN9.out.below hb); have WD10 := hid (WD9.out.below hb); have HW10 := hid (HW9.out.trans (hb.mono HW9.out.size))
  clear HA9 HB9 T9 WN9 WD9 HW9 hb
  clear hza hzb hz x0 x1 x2 y0 y1 y2 z0 z1 z2 zf
  obtain ⟨hz, x0, x1, x2, y0, y1, y2, z0, z1, z2, zf⟩ := T10.out
  have hza : w.heap.size < w10.heap.size := by omega
  have hzb : w.heap.size + 1 < w10.heap.size := by omega
  have hm := mul_made HA10.out.num.sgn HB10.out.num.sgn
  go_wp2
  refine bodyPost_ret (v := .agg #[.bool rs, .slice zn kn cn, .slice zd kd cd]) (by simp [results, Tryz.results85, go_sem, z0, z1, z2]) rfl ⟨rs, zn, kn, cn, fn, zd, kd, cd, fd, rfl, below_store HW10.out, ⟨?_, ?_, ?_, ?_⟩⟩
  · rw [← hm.1]; exact T10.out.store (WN10.out.resign HRS.out)
  · rw [← hm.2]; exact T10.out.store WD10.out
  · omega
  · omega
end Go.Proofs.YtndiiknbkjlbiaaGreatDoor
namespace Go.Proofs.YtndiiknbkjlbiaaGreatDoor
open Go.RowKit

/-- Two lists of limbs that can be read: numerator and denominator, in form or not. -/
structure Rw (w : World) (x : Option Addr) (n c : Nat) (f : Nat → Int) (y : Option Addr) (m d : Nat) (g : Nat → Int) : Prop where
  rx : Rd .u64 w x n f
  lx : Lm f n
  cx : n ≤ c ∧ c ≤ 9223372036854775807
  nx : x = none → n = 0 ∧ c = 0
  ry : Rd .u64 w y m g
  ly : Lm g m
  cy : m ≤ d ∧ d ≤ 9223372036854775807
  ny : y = none → m = 0 ∧ d = 0
theorem Rw.below {w w' x n c f y m d g} (h : Rw w x n c f y m d g) (hb : Below w.heap.size w w') : Rw w' x n c f y m d g := ⟨h.rx.below hb (Nat.le_refl _), h.lx, h.cx, h.nx, h.ry.below hb (Nat.le_refl _), h.ly, h.cy, h.ny⟩
theorem Rw.alloc {w x n c f y m d g} (h : Rw w x n c f y m d g) (o : Obj) : Rw (w.alloc o) x n c f y m d g := h.below (below_alloc (Below.refl _ _) o)
/-- In form: sign, limbs, and nothing in common. -/
def rfB (s : Bool) (f : Nat → Int) (n : Nat) (g : Nat → Int) (m : Nat) : Bool := wfB s f n && (fmB g m && (decide (0 < m) && decide ((vf f n).toNat.gcd (vf g m).toNat = 1)))
theorem natAbs_wv {s : Bool} {f : Nat → Int} {n : Nat} (h : Lm f n) : (wv s f n).natAbs = (vf f n).toNat := by
  have h0 := vf_nonneg h
  cases s
  · rw [wv_false]; omega
  · rw [wv_true]; omega
/-- What is in form is a number. -/
theorem Rw.rn {w s x n c f y m d g L} (h : Rw w x n c f y m d g) (hf : rfB s f n g m = true) (hn : n ≤ L) (hm : m ≤ L) : ∃ q, Rn L w s x n c f y m d g q := by
  simp only [rfB, Bool.and_eq_true, decide_eq_true_eq] at hf
  obtain ⟨h1, h2, h3, h4⟩ := hf
  have hp := vf_pos h.ly (fm_of h2) h3
  refine ⟨⟨wv s f n, (vf g m).toNat, by omega, by rw [natAbs_wv h.lx]; exact h4⟩, ⟨h.rx, h.lx, h1, h.cx, h.nx, rfl⟩, ⟨h.ry, h.ly, (wfB_iff _ _ _).2 ⟨fm_of h2, fun h => by cases h⟩, h.cy, h.ny, ?_⟩, hn, hm⟩
  show vf g m = ((vf g m).toNat : Int)
  omega
theorem Rn.rw {L w s x n c f y m d g q} (h : Rn L w s x n c f y m d g q) : Rw w x n c f y m d g := ⟨h.num.rd, h.num.lm, h.num.cap, h.num.nil, h.den.rd, h.den.lm, h.den.cap, h.den.nil⟩
theorem Rn.rf {L w s x n c f y m d g q} (h : Rn L w s x n c f y m d g q) : rfB s f n g m = true := by
  simp only [rfB, Bool.and_eq_true, decide_eq_true_eq]
  have hd := q.den_pos
  refine ⟨h.num.wf, (fmB_iff _ _).2 h.den.fm, h.den.pos (by omega), ?_⟩
  rw [← natAbs_wv (s := s) h.num.lm, h.num.val, h.den.nv]
  exact q.reduced
theorem Rn.inj {L L' w w' s t x n c f y m d g x' n' c' f' y' m' d' g' q r} (h : Rn L w s x n c f y m d g q) (h' : Rn L' w' t x' n' c' f' y' m' d' g' r) : (s = t ∧ Alk n n' f f' ∧ Alk m m' g g') ↔ q = r := by
  constructor
  · rintro ⟨rfl, ⟨rfl, h1⟩, ⟨rfl, h2⟩⟩
    have e1 : vf f n = vf f' n := vf_congr h1
    have e2 : vf g m = vf g' m := vf_congr h2
    refine Rat.ext ?_ ?_
    · rw [← h.num.val, ← h'.num.val]
      cases s
      · rw [wv_false, wv_false, e1]
      · rw [wv_true, wv_true, e1]
    · have := h.den.nv; have := h'.den.nv; omega
  · rintro rfl
    have ha := vf_nonneg h.num.lm; have hb := vf_nonneg h'.num.lm
    have e2 := vf_inj h.den.lm h'.den.lm h.den.fm h'.den.fm (h.den.nv.trans h'.den.nv.symm)
    have v1 := h.num.val; have v2 := h'.num.val
    have p1 := sgn_of_wfB h.num.wf; have p2 := sgn_of_wfB h'.num.wf
    have q1 : 0 < n → 0 < vf f n := vf_pos h.num.lm h.num.fm
    have q2 : 0 < n' → 0 < vf f' n' := vf_pos h'.num.lm h'.num.fm
    cases s <;> cases t
    · rw [wv_false] at v1 v2
      exact ⟨rfl, vf_inj h.num.lm h'.num.lm h.num.fm h'.num.fm (v1.trans v2.symm), e2⟩
    · rw [wv_false] at v1; rw [wv_true] at v2
      have := q2 (p2 rfl)
      omega
    · rw [wv_true] at v1; rw [wv_false] at v2
      have := q1 (p1 rfl)
      omega
    · rw [wv_true] at v1 v2
      exact ⟨rfl, vf_inj h.num.lm h'.num.lm h.num.fm h'.num.fm (by omega), e2⟩
/-- A box of three cells at block B. -/
structure Bx3 (w : World) (B : Nat) (a0 a1 a2 : Value) : Prop where
  z : B < w.heap.size
  x0 : w.cell? ⟨B, 0, none⟩ = some a0
  x1 : w.cell? ⟨B, 1, none⟩ = some a1
  x2 : w.cell? ⟨B, 2, none⟩ = some a2
theorem Bx3.below {w w' B a0 a1 a2} (h : Bx3 w B a0 a1 a2) (hb : Below w.heap.size w w') : Bx3 w' B a0 a1 a2 := ⟨Nat.lt_of_lt_of_le h.z hb.size, kCb hb h.x0, kCb hb h.x1, kCb hb h.x2⟩
theorem Bx3.alloc {w B a0 a1 a2} (h : Bx3 w B a0 a1 a2) (o : Obj) : Bx3 (w.alloc o) B a0 a1 a2 := h.below (below_alloc (Below.refl _ _) o)
theorem Bx3.next {w w' B a0 a1 a2} {o : Obj} (h : Bx3 w B a0 a1 a2) (hb : Below (w.alloc o).heap.size (w.alloc o) w') : Bx3 w' B a0 a1 a2 := (h.alloc o).below hb
theorem bx3_at (w : World) (a0 a1 a2 : Value) (t : TypeId) : Bx3 (w.alloc (.cells #[a0, a1, a2] t)) w.heap.size a0 a1 a2 := ⟨by simp, by simp [go_sem], by simp [go_sem], by simp [go_sem]⟩
theorem bx3_new {w w' : World} {a0 a1 a2 : Value} {t : TypeId} (hb : Below (w.alloc (.cells #[a0, a1, a2] t)).heap.size (w.alloc (.cells #[a0, a1, a2] t)) w') : Bx3 w' w.heap.size a0 a1 a2 := (bx3_at w a0 a1 a2 t).below hb

set_option maxHeartbeats 1000000 in
theorem rForm_c {w : World} {s x n c f y m d g} (h : Rw w x n c f y m d g) (hn : n ≤ 4096) (hm : m ≤ 4096) :
    Calls Tryz.prog 17 #[.agg #[.bool s, .slice x n c, .slice y m d]] w fun e w' => e = .returned (.bool (rfB s f n g m)) ∧ Below w.heap.size w w' := by
  have H := hid h
  have hrf : rfB s f n g m = (wfB s f n && (fmB g m && (decide (0 < m) && decide ((vf f n).toNat.gcd (vf g m).toNat = 1)))) := rfl
  rw [hrf]
  clear h hrf
  go_enter Tryz.func17, Tryz.ntmps17
  go_wp2_with fail
  refine (numer_c s x y n c m d _).mono ?_
  rintro e w1 ⟨rfl, hb⟩
  have B1 := hid (bx3_new hb); have HW1 : Hid (Below w.heap.size w w1) := (below_alloc (Below.refl w.heap.size w) _).trans (hb.mono (by simp))
  clear hb
  obtain ⟨z, x0, x1, x2⟩ := B1.out
  go_wp2_with fail
  refine (wForm_c s x n c f _ (by omega) (H.out.rx.below HW1.out (Nat.le_refl _))).mono ?_
  rintro e w2 ⟨rfl, hb⟩
  have B2 := hid (B1.out.below hb); have HW2 := hid (HW1.out.trans (hb.mono HW1.out.size))
  clear hb B1 z x0 x1 x2 HW1
  obtain ⟨z, x0, x1, x2⟩ := B2.out
  cases h1 : wfB s f n
  · have E : Hid ((wfB s f n && (fmB g m && (decide (0 < m) && decide ((vf f n).toNat.gcd (vf g m).toNat = 1)))) = false) := hid (by rw [h1]; rfl)
    go_wp2
    go_ret
    exact ⟨by rw [E.out]; rfl, HW2.out⟩
  have F1 := hid h1
  clear h1
  have c2 := form_c y m d g w2 (by omega) (H.out.ry.below HW2.out (Nat.le_refl _))
  go_wp2_with fail
  refine c2.mono ?_
  rintro e w3 ⟨rfl, rfl⟩
  clear c2
  cases h2 : fmB g m
  · have E : Hid ((wfB s f n && (fmB g m && (decide (0 < m) && decide ((vf f n).toNat.gcd (vf g m).toNat = 1)))) = false) := hid (by rw [F1.out, h2]; rfl)
    go_wp2
    go_ret
    exact ⟨by rw [E.out]; rfl, HW2.out⟩
  by_cases h3 : 0 < m
  · have h3' : ((m : Int) == 0) = false := by simp; omega
    have hd3 : decide (0 < m) = true := by simp; omega
    have E : Hid ((wfB s f n && (fmB g m && (decide (0 < m) && decide ((vf f n).toNat.gcd (vf g m).toNat = 1)))) = decide ((((vf f n).toNat.gcd (vf g m).toNat : Nat) : Int) = 1)) := hid (by
      rw [F1.out, h2, hd3, Bool.true_and, Bool.true_and, Bool.true_and]
      by_cases h : (vf f n).toNat.gcd (vf g m).toNat = 1
      · simp [h]
      · have : ¬ ((((vf f n).toNat.gcd (vf g m).toNat : Nat) : Int) = 1) := by omega
        simp [h, this])
    have hh := (H.out.below HW2.out)
    have W1 : Wn w3 false x n c f ((vf f n).toNat : Nat) := ⟨hh.rx, hh.lx, (wfB_iff _ _ _).2 ⟨fm_of_wfB F1.out, fun h => by cases h⟩, hh.cx, hh.nx, by have := vf_nonneg hh.lx; show vf f n = _; omega⟩
    have W2 : Wn w3 false y m d g ((vf g m).toNat : Nat) := ⟨hh.ry, hh.ly, (wfB_iff _ _ _).2 ⟨fm_of h2, fun h => by cases h⟩, hh.cy, hh.ny, by have := vf_nonneg hh.ly; show vf g m = _; omega⟩
    have C3 := hid (ratGcd_c W1 W2 (by omega) (by omega))
    clear hh W1 W2 hd3 h2 h3
    go_wp2_with fail
    refine C3.out.mono ?_
    rintro e w4 ⟨zg, kg, cg, fg, rfl, hb, hg⟩
    have C4 := hid (isOne_c hg)
    clear hg
    go_wp2_with fail
    refine C4.out.mono ?_
    rintro e w5 ⟨rfl, rfl⟩
    go_wp2
    go_ret
    exact ⟨by rw [E.out]; rfl, HW2.out.trans (hb.mono HW2.out.size)⟩
  · have h3' : m = 0 := by omega
    have E : Hid ((wfB s f n && (fmB g m && (decide (0 < m) && decide ((vf f n).toNat.gcd (vf g m).toNat = 1)))) = false) := hid (by simp [h3'])
    subst h3'
    go_wp2
    go_ret
    exact ⟨by rw [E.out]; rfl, HW2.out⟩
theorem rForm_n {L w s x n c f y m d g q} (h : Rn L w s x n c f y m d g q) (hL : L ≤ 4096) :
    Calls Tryz.prog 17 #[.agg #[.bool s, .slice x n c, .slice y m d]] w fun e w' => e = .returned (.bool true) ∧ Below w.heap.size w w' := by
  have h1 := h.ln; have h2 := h.ld
  have := rForm_c (s := s) h.rw (by omega) (by omega)
  rw [h.rf] at this
  exact this

set_option maxRecDepth 100000 in
set_option maxHeartbeats 4000000 in
theorem rAdd_n {L : Nat} {w : World} {sa : Bool} {xa : Option Addr} {na ca : Nat} {fa : Nat → Int} {ya : Option Addr} {ma da : Nat} {ga : Nat → Int} {a : Rat} {sb : Bool} {xb : Option Addr} {nb cb : Nat} {fb : Nat → Int} {yb : Option Addr} {mb db : Nat} {gb : Nat → Int} {b : Rat} (ha : Rn L w sa xa na ca fa ya ma da ga a) (hb : Rn L w sb xb nb cb fb yb mb db gb b) (hL : L ≤ 1000) :
    Calls Tryz.prog 35 #[.agg #[.bool sa, .slice xa na ca, .slice ya ma da], .agg #[.bool sb, .slice xb nb cb, .slice yb mb db]] w fun e w' => RatTup (2 * L + 1) w w' e (a + b) := by
  have HA0 := hid ha; have HB0 := hid hb
  clear ha hb
  go_enter Tryz.func35, Tryz.ntmps35
  go_wp2_with fail
  refine (rForm_n (((HA0.out.alloc _).alloc _).alloc _) (by omega)).mono ?_
  rintro e w1 ⟨rfl, hbel⟩
  obtain ⟨⟨hz, x0, x1, x2, y0, y1, y2, z0, z1, z2, zf⟩, hw⟩ := three_new hbel
  have T1 : Hid (Three w.heap.size w1 _ _ _ _ _ _ _ _ _) := ⟨hz, x0, x1, x2, y0, y1, y2, z0, z1, z2, zf⟩
  have HW1 := hid hw; have HA1 := hid (HA0.out.below hw); have HB1 := hid (HB0.out.below hw)
  clear hbel hw HA0 HB0
  go_wp2_with fail
  refine (rForm_n HB1.out (by omega)).mono ?_
  rintro e w2 ⟨rfl, hb⟩
  have HA2 := hid (HA1.out.below hb); have HB2 := hid (HB1.out.below hb); have T2 := hid (T1.out.below hb); have HW2 := hid (HW1.out.trans (hb.mono HW1.out.size))
  clear HA1 HB1 T1 HW1 hb
  clear hz x0 x1 x2 y0 y1 y2 z0 z1 z2 zf
  obtain ⟨hz, x0, x1, x2, y0, y1, y2, z0, z1, z2, zf⟩ := T2.out
  have hza : w.heap.size < w2.heap.size := by omega
  have hzb : w.heap.size + 1 < w2.heap.size := by omega
  go_wp2_with fail
  refine (ratadd_c HA2.out HB2.out hL).mono ?_
  rintro e w3 ⟨rs, zn, kn, cn, fn, zd, kd, cd, fd, rfl, hb, hr⟩
  have HR := hid hr
  clear hr
  have T3 := hid (T2.out.below hb); have HW3 := hid (HW2.out.trans (hb.mono HW2.out.size))
  clear T2 HW2 hb
  clear hza hzb hz x0 x1 x2 y0 y1 y2 z0 z1 z2 zf
  obtain ⟨hz, x0, x1, x2, y0, y1, y2, z0, z1, z2, zf⟩ := T3.out
  have hza : w.heap.size < w3.heap.size := by omega
  have hzb : w.heap.size + 1 < w3.heap.size := by omega
  go_wp2
  refine bodyPost_ret (v := .tuple #[.agg #[.bool rs, .slice zn kn cn, .slice zd kd cd], .int .i64 0]) (by simp [results, Tryz.results35, go_sem, z0, z1, z2]) rfl ⟨rs, zn, kn, cn, fn, zd, kd, cd, fd, rfl, below_store HW3.out, ⟨?_, ?_, HR.out.ln, HR.out.ld⟩⟩
  · exact T3.out.store HR.out.num
  · exact T3.out.store HR.out.den

set_option maxRecDepth 100000 in
set_option maxHeartbeats 4000000 in
theorem rMul_n {L : Nat} {w : World} {sa : Bool} {xa : Option Addr} {na ca : Nat} {fa : Nat → Int} {ya : Option Addr} {ma da : Nat} {ga : Nat → Int} {a : Rat} {sb : Bool} {xb : Option Addr} {nb cb : Nat} {fb : Nat → Int} {yb : Option Addr} {mb db : Nat} {gb : Nat → Int} {b : Rat} (ha : Rn L w sa xa na ca fa ya ma da ga a) (hb : Rn L w sb xb nb cb fb yb mb db gb b) (hL : L ≤ 1000) :
    Calls Tryz.prog 44 #[.agg #[.bool sa, .slice xa na ca, .slice ya ma da], .agg #[.bool sb, .slice xb nb cb, .slice yb mb db]] w fun e w' => RatTup (2 * L + 1) w w' e (a * b) := by
  have HA0 := hid ha; have HB0 := hid hb
  clear ha hb
  go_enter Tryz.func44, Tryz.ntmps44
  go_wp2_with fail
  refine (rForm_n (((HA0.out.alloc _).alloc _).alloc _) (by omega)).mono ?_
  rintro e w1 ⟨rfl, hbel⟩
  obtain ⟨⟨hz, x0, x1, x2, y0, y1, y2, z0, z1, z2, zf⟩, hw⟩ := three_new hbel
  have T1 : Hid (Three w.heap.size w1 _ _ _ _ _ _ _ _ _) := ⟨hz, x0, x1, x2, y0, y1, y2, z0, z1, z2, zf⟩
  have HW1 := hid hw; have HA1 := hid (HA0.out.below hw); have HB1 := hid (HB0.out.below hw)
  clear hbel hw HA0 HB0
  go_wp2_with fail
  refine (rForm_n HB1.out (by omega)).mono ?_
  rintro e w2 ⟨rfl, hb⟩
  have HA2 := hid (HA1.out.below hb); have HB2 := hid (HB1.out.below hb); have T2 := hid (T1.out.below hb); have HW2 := hid (HW1.out.trans (hb.mono HW1.out.size))
  clear HA1 HB1 T1 HW1 hb
  clear hz x0 x1 x2 y0 y1 y2 z0 z1 z2 zf
  obtain ⟨hz, x0, x1, x2, y0, y1, y2, z0, z1, z2, zf⟩ := T2.out
  have hza : w.heap.size < w2.heap.size := by omega
  have hzb : w.heap.size + 1 < w2.heap.size := by omega
  go_wp2_with fail
  refine (ratmul_c HA2.out HB2.out hL).mono ?_
  rintro e w3 ⟨rs, zn, kn, cn, fn, zd, kd, cd, fd, rfl, hb, hr⟩
  have HR := hid hr
  clear hr
  have T3 := hid (T2.out.below hb); have HW3 := hid (HW2.out.trans (hb.mono HW2.out.size))
  clear T2 HW2 hb
  clear hza hzb hz x0 x1 x2 y0 y1 y2 z0 z1 z2 zf
  obtain ⟨hz, x0, x1, x2, y0, y1, y2, z0, z1, z2, zf⟩ := T3.out
  have hza : w.heap.size < w3.heap.size := by omega
  have hzb : w.heap.size + 1 < w3.heap.size := by omega
  go_wp2
  refine bodyPost_ret (v := .tuple #[.agg #[.bool rs, .slice zn kn cn, .slice zd kd cd], .int .i64 0]) (by simp [results, Tryz.results44, go_sem, z0, z1, z2]) rfl ⟨rs, zn, kn, cn, fn, zd, kd, cd, fd, rfl, below_store HW3.out, ⟨?_, ?_, HR.out.ln, HR.out.ld⟩⟩
  · exact T3.out.store HR.out.num
  · exact T3.out.store HR.out.den

theorem Rn.negate {L w s x n c f y m d g q} {r : Bool} (h : Rn L w s x n c f y m d g q) (hr : r = (!s && decide (0 < n))) : Rn L w r x n c f y m d g (-q) := by
  refine ⟨?_, h.den, h.ln, h.ld⟩
  have h1 := h.num.mag.resign (s := !s) hr
  have h2 := h.num.sgn
  show Wn w r x n c f (-q.num)
  have : -q.num = sg (!s) q.num.natAbs := by
    generalize q.num.natAbs = A at h2
    rw [h2]
    cases s
    · rfl
    · show - -(A : Int) = A; omega
  rw [this]
  exact h1
theorem Rn.invert {L w s x n c f y m d g q} {r : Bool} (h : Rn L w s x n c f y m d g q) (h0 : 0 < n) (hr : r = (s && decide (0 < m))) : Rn L w r y m d g x n c f q⁻¹ := by
  have h2 := h.num.sgn
  have hm : 0 < m := h.den.pos (by have := q.den_pos; omega)
  have hq : 0 < q.num.natAbs := by
    have h3 := vf_pos h.num.lm h.num.fm h0
    have h4 := h.num.mag.nv
    omega
  obtain ⟨e1, e2⟩ := rinv h2 hq
  refine ⟨?_, ?_, h.ld, h.ln⟩
  · rw [e1]; exact h.den.resign hr
  · rw [e2]; exact h.num.mag

set_option maxRecDepth 100000 in
set_option maxHeartbeats 4000000 in
theorem rSub_n {L : Nat} {w : World} {sa : Bool} {xa : Option Addr} {na ca : Nat} {fa : Nat → Int} {ya : Option Addr} {ma da : Nat} {ga : Nat → Int} {a : Rat} {sb : Bool} {xb : Option Addr} {nb cb : Nat} {fb : Nat → Int} {yb : Option Addr} {mb db : Nat} {gb : Nat → Int} {b : Rat} (ha : Rn L w sa xa na ca fa ya ma da ga a) (hb : Rn L w sb xb nb cb fb yb mb db gb b) (hL : L ≤ 1000) :
    Calls Tryz.prog 43 #[.agg #[.bool sa, .slice xa na ca, .slice ya ma da], .agg #[.bool sb, .slice xb nb cb, .slice yb mb db]] w fun e w' => RatTup (2 * L + 1) w w' e (a - b) := by
  have HA0 := hid ha; have HB0 := hid hb
  clear ha hb
  go_enter Tryz.func43, Tryz.ntmps43
  go_wp2_with fail
  refine (rForm_n (((HA0.out.alloc _).alloc _).alloc _) (by omega)).mono ?_
  rintro e w1 ⟨rfl, hbel⟩
  obtain ⟨⟨hz, x0, x1, x2, y0, y1, y2, z0, z1, z2, zf⟩, hw⟩ := three_new hbel
  have T1 : Hid (Three w.heap.size w1 _ _ _ _ _ _ _ _ _) := ⟨hz, x0, x1, x2, y0, y1, y2, z0, z1, z2, zf⟩
  have HW1 := hid hw; have HA1 := hid (HA0.out.below hw); have HB1 := hid (HB0.out.below hw)
  clear hbel hw HA0 HB0
  go_wp2_with fail
  refine (rForm_n HB1.out (by omega)).mono ?_
  rintro e w2 ⟨rfl, hb⟩
  have HA2 := hid (HA1.out.below hb); have HB2 := hid (HB1.out.below hb); have T2 := hid (T1.out.below hb); have HW2 := hid (HW1.out.trans (hb.mono HW1.out.size))
  clear HA1 HB1 T1 HW1 hb
  clear hz x0 x1 x2 y0 y1 y2 z0 z1 z2 zf
  obtain ⟨hz, x0, x1, x2, y0, y1, y2, z0, z1, z2, zf⟩ := T2.out
  have hza : w.heap.size < w2.heap.size := by omega
  have hzb : w.heap.size + 1 < w2.heap.size := by omega
  have C3 : Hid (∀ (W : World), Below w2.heap.size w2 W → Calls Tryz.prog 39 #[.bool !sb, .slice xb nb cb, .slice yb mb db] W fun e w' => ∃ r, e = .returned (.agg #[.bool r, .slice xb nb cb, .slice yb mb db]) ∧ Below W.heap.size W w' ∧ Hid (Rn L w' r xb nb cb fb yb mb db gb (-b))) := fun W hW => (rsigned_c _ xb yb nb cb mb db W (by have := HB2.out.num.cap; have := HB2.out.den.cap; omega)).mono (fun e w' ⟨r, h1, h2, h3⟩ => ⟨r, h1, h3, ((HB2.out.below hW).below h3).negate h2.out⟩)
  have C4 : Hid (∀ (W : World) (r : Bool), Below w2.heap.size w2 W → Rn L W r xb nb cb fb yb mb db gb (-b) → Calls Tryz.prog 82 #[.agg #[.bool sa, .slice xa na ca, .slice ya ma da], .agg #[.bool r, .slice xb nb cb, .slice yb mb db]] W fun e w' => ∃ s x n c f y m d g, e = .returned (.agg #[.bool s, .slice x n c, .slice y m d]) ∧ Below W.heap.size W w' ∧ Hid (Rn (2 * L + 1) w' s x n c f y m d g (a - b))) := fun W r hW hr => (ratadd_c (HA2.out.below hW) hr hL).mono (fun e w' ⟨s, x, n, c, f, y, m, d, g, h1, h2, h3⟩ => ⟨s, x, n, c, f, y, m, d, g, h1, h2, by have h4 := h3; rw [← Rat.sub_eq_add_neg] at h4; exact h4⟩)
  go_wp2_with fail
  go_region_held3 (fun w' => w'.cell? ⟨w.heap.size, 0, none⟩ = some (.bool sa) ∧ w'.cell? ⟨w.heap.size, 1, none⟩ = some (.slice xa na ca) ∧ w'.cell? ⟨w.heap.size, 2, none⟩ = some (.slice ya ma da) ∧ w'.cell? ⟨w.heap.size + 1, 0, none⟩ = some (.bool sb) ∧ w'.cell? ⟨w.heap.size + 1, 1, none⟩ = some (.slice xb nb cb) ∧ w'.cell? ⟨w.heap.size + 1, 2, none⟩ = some (.slice yb mb db) ∧ (w'.cell? ⟨w.heap.size + 1 + 1, 0, none⟩).isSome = true ∧ (w'.cell? ⟨w.heap.size + 1 + 1, 1, none⟩).isSome = true ∧ (w'.cell? ⟨w.heap.size + 1 + 1, 2, none⟩).isSome = true ∧ w'.frozen? ⟨w.heap.size + 1 + 1, 0, none⟩ = false ∧ w'.frozen? ⟨w.heap.size + 1 + 1, 1, none⟩ = false ∧ w'.frozen? ⟨w.heap.size + 1 + 1, 2, none⟩ = false)
    (refine ⟨?_, ?_, ?_, ?_, ?_, ?_, ?_, ?_, ?_, ?_, ?_, ?_⟩ <;> repeat (with_reducible first | assumption | exact zf _ | exact uf _ | exact vf' _ | exact kI0 z0 | exact kI0 z1 | exact kI0 z2 | exact kI0 u0 | exact kI0 u1 | exact kI0 u2 | exact kI0 v0 | exact kI0 v1 | exact kI0 v2 | refine kCd ?_ | refine kId ?_ | refine kFd ?_ | refine kCs (by simp only [ne_eq]; omega) ?_ | refine kIs ?_ | refine kFs ?_ | refine kCb (by assumption) ?_ | refine kIb (by assumption) ?_))
    (first
      | (go_at_call 39; with_reducible refine (C3.out _ (by repeat (with_reducible first | assumption | exact Below.refl _ _ | refine Below.drew ?_ | refine kBa ?_ | refine kBb (by assumption) ?_))).mono ?_; rintro e w3 ⟨r3, rfl, hb3, HR3⟩; have TU : Three w.heap.size w3 (.bool sa) (.slice xa na ca) (.slice ya ma da) (.bool sb) (.slice xb nb cb) (.slice yb mb db) (.bool false) (.slice none 0 0) (.slice none 0 0) := (by repeat (with_reducible first | exact T2.out | exact TU | refine kTd ?_ | refine kTb (by assumption) ?_)); obtain ⟨_, _, _, _, _, _, _, u0, u1, u2, uf⟩ := id TU)
      | (go_at_call 82; with_reducible refine (C4.out _ r3 (by repeat (with_reducible first | assumption | exact Below.refl _ _ | refine Below.drew ?_ | refine kBa ?_ | refine kBb (by assumption) ?_)) HR3.out).mono ?_; rintro e w4 ⟨rs, zn, kn, cn, fn, zd, kd, cd, fd, rfl, hb4, HR⟩; have TV : Three w.heap.size w4 (.bool sa) (.slice xa na ca) (.slice ya ma da) (.bool sb) (.slice xb nb cb) (.slice yb mb db) (.bool false) (.slice none 0 0) (.slice none 0 0) := (by repeat (with_reducible first | exact T2.out | exact TU | refine kTd ?_ | refine kTb (by assumption) ?_)); obtain ⟨_, _, _, _, _, _, _, v0, v1, v2, vf'⟩ := id TV))
  have hb : Below w2.heap.size w2 w4 := (by repeat (with_reducible first | assumption | exact Below.refl _ _ | refine Below.drew ?_ | refine kBa ?_ | refine kBb (by assumption) ?_))
  have HW4 := hid (HW2.out.trans (hb.mono HW2.out.size))
  go_wp2
  refine bodyPost_ret (v := .tuple #[.agg #[.bool rs, .slice zn kn cn, .slice zd kd cd], .int .i64 0]) (by simp [results, Tryz.results43, go_sem, v0, v1, v2]) rfl ⟨rs, zn, kn, cn, fn, zd, kd, cd, fd, rfl, below_store HW4.out, ⟨?_, ?_, HR.out.ln, HR.out.ld⟩⟩
  · exact TV.store HR.out.num
  · exact TV.store HR.out.den

set_option maxRecDepth 100000 in
set_option maxHeartbeats 4000000 in
theorem rQuo_z {L : Nat} {w : World} {sa : Bool} {xa : Option Addr} {na ca : Nat} {fa : Nat → Int} {ya : Option Addr} {ma da : Nat} {ga : Nat → Int} {a : Rat} {sb : Bool} {xb : Option Addr} {nb cb : Nat} {fb : Nat → Int} {yb : Option Addr} {mb db : Nat} {gb : Nat → Int} {b : Rat} (ha : Rn L w sa xa na ca fa ya ma da ga a) (hb : Rn L w sb xb nb cb fb yb mb db gb b) (hL : L ≤ 1000) (h0 : nb = 0) :
    Calls Tryz.prog 45 #[.agg #[.bool sa, .slice xa na ca, .slice ya ma da], .agg #[.bool sb, .slice xb nb cb, .slice yb mb db]] w fun e w' => ∃ s x n c y m d, e = .returned (.tuple #[.agg #[.bool s, .slice x n c, .slice y m d], .int .i64 4]) ∧ Below w.heap.size w w' := by
  subst h0
  have HA0 := hid ha; have HB0 := hid hb
  clear ha hb
  go_enter Tryz.func45, Tryz.ntmps45
  go_wp2_with fail
  refine (rForm_n (((HA0.out.alloc _).alloc _).alloc _) (by omega)).mono ?_
  rintro e w1 ⟨rfl, hbel⟩
  obtain ⟨⟨hz, x0, x1, x2, y0, y1, y2, z0, z1, z2, zf⟩, hw⟩ := three_new hbel
  have T1 : Hid (Three w.heap.size w1 _ _ _ _ _ _ _ _ _) := ⟨hz, x0, x1, x2, y0, y1, y2, z0, z1, z2, zf⟩
  have HW1 := hid hw; have HA1 := hid (HA0.out.below hw); have HB1 := hid (HB0.out.below hw)
  clear hbel hw HA0 HB0
  go_wp2_with fail
  refine (rForm_n HB1.out (by omega)).mono ?_
  rintro e w2 ⟨rfl, hb⟩
  have HA2 := hid (HA1.out.below hb); have HB2 := hid (HB1.out.below hb); have T2 := hid (T1.out.below hb); have HW2 := hid (HW1.out.trans (hb.mono HW1.out.size))
  clear HA1 HB1 T1 HW1 hb
  clear hz x0 x1 x2 y0 y1 y2 z0 z1 z2 zf
  obtain ⟨hz, x0, x1, x2, y0, y1, y2, z0, z1, z2, zf⟩ := T2.out
  have hza : w.heap.size < w2.heap.size := by omega
  have hzb : w.heap.size + 1 < w2.heap.size := by omega
  go_wp2
  exact bodyPost_ret (v := .tuple #[.agg #[.bool false, .slice none 0 0, .slice none 0 0], .int .i64 4]) (by simp [results, Tryz.results45, go_sem, z0, z1, z2]) rfl ⟨false, none, 0, 0, none, 0, 0, rfl, below_store HW2.out⟩

set_option maxRecDepth 100000 in
set_option maxHeartbeats 4000000 in
theorem rQuo_n {L : Nat} {w : World} {sa : Bool} {xa : Option Addr} {na ca : Nat} {fa : Nat → Int} {ya : Option Addr} {ma da : Nat} {ga : Nat → Int} {a : Rat} {sb : Bool} {xb : Option Addr} {nb cb : Nat} {fb : Nat → Int} {yb : Option Addr} {mb db : Nat} {gb : Nat → Int} {b : Rat} (ha : Rn L w sa xa na ca fa ya ma da ga a) (hb : Rn L w sb xb nb cb fb yb mb db gb b) (hL : L ≤ 1000) (h0 : 0 < nb) :
    Calls Tryz.prog 45 #[.agg #[.bool sa, .slice xa na ca, .slice ya ma da], .agg #[.bool sb, .slice xb nb cb, .slice yb mb db]] w fun e w' => RatTup (2 * L + 1) w w' e (a / b) := by
  have HA0 := hid ha; have HB0 := hid hb
  clear ha hb
  go_enter Tryz.func45, Tryz.ntmps45
  go_wp2_with fail
  refine (rForm_n (((HA0.out.alloc _).alloc _).alloc _) (by omega)).mono ?_
  rintro e w1 ⟨rfl, hbel⟩
  obtain ⟨⟨hz, x0, x1, x2, y0, y1, y2, z0, z1, z2, zf⟩, hw⟩ := three_new hbel
  have T1 : Hid (Three w.heap.size w1 _ _ _ _ _ _ _ _ _) := ⟨hz, x0, x1, x2, y0, y1, y2, z0, z1, z2, zf⟩
  have HW1 := hid hw; have HA1 := hid (HA0.out.below hw); have HB1 := hid (HB0.out.below hw)
  clear hbel hw HA0 HB0
  go_wp2_with fail
  refine (rForm_n HB1.out (by omega)).mono ?_
  rintro e w2 ⟨rfl, hb⟩
  have HA2 := hid (HA1.out.below hb); have HB2 := hid (HB1.out.below hb); have T2 := hid (T1.out.below hb); have HW2 := hid (HW1.out.trans (hb.mono HW1.out.size))
  clear HA1 HB1 T1 HW1 hb
  clear hz x0 x1 x2 y0 y1 y2 z0 z1 z2 zf
  obtain ⟨hz, x0, x1, x2, y0, y1, y2, z0, z1, z2, zf⟩ := T2.out
  have hza : w.heap.size < w2.heap.size := by omega
  have hzb : w.heap.size + 1 < w2.heap.size := by omega
  have hn0 : ((nb : Int) == 0) = false := by simp; omega
  have H0 := hid h0
  clear h0
  have C3 : Hid (∀ (W : World), Below w2.heap.size w2 W → Calls Tryz.prog 39 #[.bool sb, .slice yb mb db, .slice xb nb cb] W fun e w' => ∃ r, e = .returned (.agg #[.bool r, .slice yb mb db, .slice xb nb cb]) ∧ Below W.heap.size W w' ∧ Hid (Rn L w' r yb mb db gb xb nb cb fb b⁻¹)) := fun W hW => (rsigned_c _ yb xb mb db nb cb W (by have := HB2.out.num.cap; have := HB2.out.den.cap; omega)).mono (fun e w' ⟨r, h1, h2, h3⟩ => ⟨r, h1, h3, ((HB2.out.below hW).below h3).invert H0.out h2.out⟩)
  have C4 : Hid (∀ (W : World) (r : Bool), Below w2.heap.size w2 W → Rn L W r yb mb db gb xb nb cb fb b⁻¹ → Calls Tryz.prog 85 #[.agg #[.bool sa, .slice xa na ca, .slice ya ma da], .agg #[.bool r, .slice yb mb db, .slice xb nb cb]] W fun e w' => ∃ s x n c f y m d g, e = .returned (.agg #[.bool s, .slice x n c, .slice y m d]) ∧ Below W.heap.size W w' ∧ Hid (Rn (2 * L + 1) w' s x n c f y m d g (a / b))) := fun W r hW hr => (ratmul_c (HA2.out.below hW) hr hL).mono (fun e w' ⟨s, x, n, c, f, y, m, d, g, h1, h2, h3⟩ => ⟨s, x, n, c, f, y, m, d, g, h1, h2, by have h4 := h3; rw [← Rat.div_def] at h4; exact h4⟩)
  go_wp2_with fail
  go_region_held3 (fun w' => w'.cell? ⟨w.heap.size, 0, none⟩ = some (.bool sa) ∧ w'.cell? ⟨w.heap.size, 1, none⟩ = some (.slice xa na ca) ∧ w'.cell? ⟨w.heap.size, 2, none⟩ = some (.slice ya ma da) ∧ w'.cell? ⟨w.heap.size + 1, 0, none⟩ = some (.bool sb) ∧ w'.cell? ⟨w.heap.size + 1, 1, none⟩ = some (.slice xb nb cb) ∧ w'.cell? ⟨w.heap.size + 1, 2, none⟩ = some (.slice yb mb db) ∧ (w'.cell? ⟨w.heap.size + 1 + 1, 0, none⟩).isSome = true ∧ (w'.cell? ⟨w.heap.size + 1 + 1, 1, none⟩).isSome = true ∧ (w'.cell? ⟨w.heap.size + 1 + 1, 2, none⟩).isSome = true ∧ w'.frozen? ⟨w.heap.size + 1 + 1, 0, none⟩ = false ∧ w'.frozen? ⟨w.heap.size + 1 + 1, 1, none⟩ = false ∧ w'.frozen? ⟨w.heap.size + 1 + 1, 2, none⟩ = false)
    (refine ⟨?_, ?_, ?_, ?_, ?_, ?_, ?_, ?_, ?_, ?_, ?_, ?_⟩ <;> repeat (with_reducible first | assumption | exact zf _ | exact uf _ | exact vf' _ | exact kI0 z0 | exact kI0 z1 | exact kI0 z2 | exact kI0 u0 | exact kI0 u1 | exact kI0 u2 | exact kI0 v0 | exact kI0 v1 | exact kI0 v2 | refine kCd ?_ | refine kId ?_ | refine kFd ?_ | refine kCs (by simp only [ne_eq]; omega) ?_ | refine kIs ?_ | refine kFs ?_ | refine kCb (by assumption) ?_ | refine kIb (by assumption) ?_))
    (first
      | (go_at_call 39; with_reducible refine (C3.out _ (by repeat (with_reducible first | assumption | exact Below.refl _ _ | refine Below.drew ?_ | refine kBa ?_ | refine kBb (by assumption) ?_))).mono ?_; rintro e w3 ⟨r3, rfl, hb3, HR3⟩; have TU : Three w.heap.size w3 (.bool sa) (.slice xa na ca) (.slice ya ma da) (.bool sb) (.slice xb nb cb) (.slice yb mb db) (.bool false) (.slice none 0 0) (.slice none 0 0) := (by repeat (with_reducible first | exact T2.out | exact TU | refine kTd ?_ | refine kTb (by assumption) ?_)); obtain ⟨_, _, _, _, _, _, _, u0, u1, u2, uf⟩ := id TU)
      | (go_at_call 85; with_reducible refine (C4.out _ r3 (by repeat (with_reducible first | assumption | exact Below.refl _ _ | refine Below.drew ?_ | refine kBa ?_ | refine kBb (by assumption) ?_)) HR3.out).mono ?_; rintro e w4 ⟨rs, zn, kn, cn, fn, zd, kd, cd, fd, rfl, hb4, HR⟩; have TV : Three w.heap.size w4 (.bool sa) (.slice xa na ca) (.slice ya ma da) (.bool sb) (.slice xb nb cb) (.slice yb mb db) (.bool false) (.slice none 0 0) (.slice none 0 0) := (by repeat (with_reducible first | exact T2.out | exact TU | refine kTd ?_ | refine kTb (by assumption) ?_)); obtain ⟨_, _, _, _, _, _, _, v0, v1, v2, vf'⟩ := id TV))
  have hb : Below w2.heap.size w2 w4 := (by repeat (with_reducible first | assumption | exact Below.refl _ _ | refine Below.drew ?_ | refine kBa ?_ | refine kBb (by assumption) ?_))
  have HW4 := hid (HW2.out.trans (hb.mono HW2.out.size))
  go_wp2
  refine bodyPost_ret (v := .tuple #[.agg #[.bool rs, .slice zn kn cn, .slice zd kd cd], .int .i64 0]) (by simp [results, Tryz.results45, go_sem, v0, v1, v2]) rfl ⟨rs, zn, kn, cn, fn, zd, kd, cd, fd, rfl, below_store HW4.out, ⟨?_, ?_, HR.out.ln, HR.out.ld⟩⟩
  · exact TV.store HR.out.num
  · exact TV.store HR.out.den
end Go.Proofs.YtndiiknbkjlbiaaGreatDoor
namespace Go.Proofs.YtndiiknbkjlbiaaGreatDoor
open Go.RowKit

theorem rwForm_c (s : Bool) (ao : Option Addr) (n cap : Nat) (f : Nat → Int) (w : World) (hm : n ≤ 9223372036854775807) (hr : Rd .u64 w ao n f) :
    Calls Tryz.prog 72 #[.agg #[.bool s, .slice ao n cap]] w fun e w' => e = .returned (.bool (wfB s f n)) ∧ Below w.heap.size w w' := by
  have hba : Below w.heap.size w (w.alloc (.cells #[.bool s, .slice ao n cap] 45)) := below_alloc (Below.refl _ _) _
  have c1 := rform_c ao n cap f (w.alloc (.cells #[.bool s, .slice ao n cap] 45)) hm (hr.alloc _)
  have HB := hid hba
  clear hr hba
  have hwf : wfB s f n = (fmB f n && !(s && decide (n = 0))) := rfl
  rw [hwf]
  clear hwf
  cases hfa : fmB f n
  · rw [hfa] at c1
    have C1 := hid c1
    clear c1 hfa
    go_enter Tryz.func72, Tryz.ntmps72
    go_wp2_with fail
    refine C1.out.mono ?_
    rintro e w1 ⟨rfl, rfl⟩
    go_wp2
    go_ret
    exact ⟨rfl, HB.out⟩
  · rw [hfa] at c1
    have C1 := hid c1
    clear c1 hfa
    cases s
    · go_enter Tryz.func72, Tryz.ntmps72
      go_wp2_with fail
      refine C1.out.mono ?_
      rintro e w1 ⟨rfl, rfl⟩
      go_wp2
      go_ret
      exact ⟨rfl, HB.out⟩
    · by_cases hn0 : n = 0
      · subst hn0
        go_enter Tryz.func72, Tryz.ntmps72
        go_wp2_with fail
        refine C1.out.mono ?_
        rintro e w1 ⟨rfl, rfl⟩
        go_wp2
        go_ret
        exact ⟨rfl, HB.out⟩
      · have hni : ((n : Int) == 0) = false := by simp; omega
        have hdn : decide (n = 0) = false := by simp; omega
        rw [hdn]
        clear hdn
        go_enter Tryz.func72, Tryz.ntmps72
        go_wp2_with fail
        refine C1.out.mono ?_
        rintro e w1 ⟨rfl, rfl⟩
        go_wp2
        go_ret
        exact ⟨rfl, HB.out⟩

set_option maxHeartbeats 1000000 in
theorem zText_c (s : Bool) (ao : Option Addr) (n cap : Nat) (d : Nat → Int) (V : Nat) (w : World) (hn : n ≤ 8192) (hr : Rd .u64 w ao n d) (hd : Dg d n) (hf : Fm d n) (hV : vd d n = V) (hsz : (Lib.decDigits V).length ≤ 1000000) :
    Calls Tryz.prog 108 #[.agg #[.bool s, .slice ao n cap]] w fun e w' => e = .returned (.string (if s then ⟨#[45]⟩ ++ ⟨(Lib.decDigits V).toArray⟩ else ⟨(Lib.decDigits V).toArray⟩)) ∧ Below w.heap.size w w' := by
  have C := hid (fun W hr' => rtext_c ao n cap d V W hn hr' hd hf hV)
  have HR := hid hr
  have hsz2 : (⟨(Lib.decDigits V).toArray⟩ : ByteArray).size ≤ 1000000 := by show ((Lib.decDigits V).toArray).size ≤ _; rw [List.size_toArray]; exact hsz
  generalize (⟨(Lib.decDigits V).toArray⟩ : ByteArray) = t at *
  clear hr hd hf hV hsz
  cases s
  all_goals
    go_enter Tryz.func108, Tryz.ntmps108
    go_wp2_with fail
    refine (C.out _ (HR.out.alloc _)).mono ?_
    rintro e w1 ⟨rfl, hb⟩
    obtain ⟨_, _, hw⟩ := boxes1 hb
    have HW := hid hw
    clear hb hw
    go_wp2
    go_ret
    exact ⟨rfl, HW.out⟩

/-- What the reference's Read leaves. -/
def ZRead (w w' : World) (L : Nat) (b : Nat → Nat) (t : Bool) (x : Option Addr) (m : Nat) (d : Nat → Int) (ok : Bool) : Prop :=
  Below w.heap.size w w' ∧ Rd .u64 w' x m d ∧ m ≤ L ∧ Dg d m ∧ Fm d m ∧ (∀ a, x = some a → w.heap.size ≤ a.block) ∧
  (ok = true ↔ (0 < L ∧ b 0 = 45 ∧ IsNum (bsh b 1) (L - 1) ∧ 0 < dn (bsh b 1) (L - 1)) ∨ (¬ (0 < L ∧ b 0 = 45) ∧ IsNum b L)) ∧
  (ok = true → (t = true ∧ 0 < L ∧ b 0 = 45 ∧ 0 < m ∧ vd d m = (dn (bsh b 1) (L - 1) : Nat)) ∨ (t = false ∧ ¬ (0 < L ∧ b 0 = 45) ∧ vd d m = (dn b L : Nat)))

set_option maxHeartbeats 2000000 in
theorem zRead_c (s : ByteArray) (L : Nat) (b : Nat → Nat) (w : World) (hs : Sb s L b) (hL : L ≤ 1048576) :
    Calls Tryz.prog 113 #[.string s] w fun e w' => ∃ t x m c d ok, e = .returned (.tuple #[.agg #[.bool t, .slice x m c], .bool ok]) ∧ ZRead w w' L b t x m d ok := by
  have hsz := hs.1
  subst hsz
  by_cases hmn : 0 < s.size ∧ b 0 = 45
  · obtain ⟨h0, h1⟩ := hmn
    have hc : (s[0]'h0).toNat = 45 := by rw [hs.2 0 h0]; exact h1
    have d0 : decide ((0 : Int) < (s.size : Int)) = true := by simp; omega
    have HSb := hid (hs.drop (c := 1) h0); have H1 := hid h1
    clear hs h1
    go_enter Tryz.func113, Tryz.ntmps113
    go_wp2_with fail
    refine (rread_c (s.extract 1 s.size) (s.size - 1) (bsh b 1) _ HSb.out (by omega)).mono ?_
    rintro e w1 ⟨x, m, c, d, rfl, hans⟩
    obtain ⟨⟨hz, z0, z1⟩, zf, hw⟩ := boxes1 hans.1
    have HAns := hid hans; have HW := hid hw
    obtain ⟨R, hR⟩ : ∃ R, numB (bsh b 1) (s.size - 1) = R := ⟨_, rfl⟩
    rw [hR]
    have hml : m ≤ s.size - 1 := hans.2.2.1
    have HRe := hid hR
    clear hans hw hR
    have hT : ∀ u v, Turned w.heap.size (w.heap.size + 1) w1 ((w1.setCell ⟨w.heap.size, 0, none⟩ u).setCell ⟨w.heap.size, 1, none⟩ v) := fun u v => ((Turned.refl _ _ _).set (by first | omega | (simp; done) | (simp; omega)) (by first | omega | (simp; done) | (simp; omega)) _).set (by first | omega | (simp; done) | (simp; omega)) (by first | omega | (simp; done) | (simp; omega)) _
    have HT := hid hT
    clear hT
    have fin : ∀ ok : Bool, (ok = (R && decide (0 < m))) → ZRead w ((w1.setCell ⟨w.heap.size, 0, none⟩ (.bool true)).setCell ⟨w.heap.size, 1, none⟩ (.slice x m c)) s.size b true x m d ok := by
      intro ok hok
      obtain ⟨a1, a2, a3, a4, a5, a6, a7⟩ := HAns.out
      have hR := HRe.out
      have hnew : ∀ a, x = some a → w.heap.size + 1 ≤ a.block := fun a ha => by have := a7 a ha; simpa using this
      have hval : R = true → vd d m = (dn (bsh b 1) (s.size - 1) : Nat) := fun h => a6 (by rw [hR]; exact h)
      have hnum : R = true ↔ IsNum (bsh b 1) (s.size - 1) := by rw [← hR]; exact numB_iff _ _
      have hpos : R = true → (0 < m ↔ 0 < dn (bsh b 1) (s.size - 1)) := fun h => by
        have hv := hval h
        constructor
        · intro hm; have h1 := vd_form_ge a4 a5 hm; have h2 := pd_pos (m - 1); omega
        · intro hd; apply Nat.pos_of_ne_zero; intro hm; subst hm; simp [vd] at hv; omega
      refine ⟨below_turned HW.out HW.out.size (HT.out _ _) (Nat.le_refl _), a2.turned (HT.out _ _) (fun a ha => .inr (hnew a ha)), by omega, a4, a5, fun a ha => by have := hnew a ha; omega, ?_, ?_⟩
      · constructor
        · intro h
          rw [hok] at h; simp at h
          exact .inl ⟨h0, H1.out, hnum.1 h.1, (hpos h.1).1 h.2⟩
        · rintro (⟨_, _, h3, h4⟩ | ⟨h3, _⟩)
          · rw [hok]; have := hnum.2 h3; simp [this]; exact (hpos this).2 h4
          · exact absurd ⟨h0, H1.out⟩ h3
      · intro h
        rw [hok] at h; simp at h
        exact .inl ⟨rfl, h0, H1.out, h.2, hval h.1⟩
    have FIN := hid fin
    clear fin HAns HRe HT
    cases R
    · go_wp2
      refine bodyPost_ret (v := .tuple #[.agg #[.bool true, .slice x m c], .bool false]) (by simp [results, Tryz.results113, go_sem, z0, z1]) rfl ⟨true, x, m, c, d, false, rfl, FIN.out false (by simp)⟩
    · by_cases hm : 0 < m
      · have hd : decide ((0 : Int) < (m : Int)) = true := by simp; omega
        go_wp2
        refine bodyPost_ret (v := .tuple #[.agg #[.bool true, .slice x m c], .bool true]) (by simp [results, Tryz.results113, go_sem, z0, z1]) rfl ⟨true, x, m, c, d, true, rfl, FIN.out true (by simp [hm])⟩
      · have hd : decide ((0 : Int) < (m : Int)) = false := by simp; omega
        go_wp2
        refine bodyPost_ret (v := .tuple #[.agg #[.bool true, .slice x m c], .bool false]) (by simp [results, Tryz.results113, go_sem, z0, z1]) rfl ⟨true, x, m, c, d, false, rfl, FIN.out false (by simp [hm])⟩
  · have HSb := hid hs; have HMn := hid hmn
    have fin : ∀ (w1 : World) (x : Option Addr) (m c : Nat) (d : Nat → Int), RAns (w.alloc (.cells #[.bool false, .slice none 0 0] 70)) w1 x m d s.size b (numB b s.size) → Below w.heap.size w w1 → w.heap.size < w1.heap.size → ZRead w ((w1.setCell ⟨w.heap.size, 0, none⟩ (.bool false)).setCell ⟨w.heap.size, 1, none⟩ (.slice x m c)) s.size b false x m d (numB b s.size) := by
      intro w1 x m c d hans hw hz
      obtain ⟨a1, a2, a3, a4, a5, a6, a7⟩ := hans
      have hT : Turned w.heap.size (w.heap.size + 1) w1 ((w1.setCell ⟨w.heap.size, 0, none⟩ (.bool false)).setCell ⟨w.heap.size, 1, none⟩ (.slice x m c)) := ((Turned.refl _ _ _).set (by first | omega | (simp; done) | (simp; omega)) (by first | omega | (simp; done) | (simp; omega)) _).set (by first | omega | (simp; done) | (simp; omega)) (by first | omega | (simp; done) | (simp; omega)) _
      have hnew : ∀ a, x = some a → w.heap.size + 1 ≤ a.block := fun a ha => by have := a7 a ha; simpa using this
      refine ⟨below_turned hw hw.size hT (Nat.le_refl _), a2.turned hT (fun a ha => .inr (hnew a ha)), by omega, a4, a5, fun a ha => by have := hnew a ha; omega, ?_, ?_⟩
      · rw [numB_iff]
        constructor
        · intro h; exact .inr ⟨hmn, h⟩
        · rintro (⟨h1, h2, _⟩ | ⟨_, h⟩)
          · exact absurd ⟨h1, h2⟩ hmn
          · exact h
      · intro h; exact .inr ⟨rfl, hmn, a6 h⟩
    have FIN := hid fin
    clear fin
    by_cases h0 : 0 < s.size
    · have hc0 : (s[0]'h0).toNat ≠ 45 := by rw [hs.2 0 h0]; exact fun h => hmn ⟨h0, h⟩
      have d0 : decide ((0 : Int) < (s.size : Int)) = true := by simp; omega
      obtain ⟨y, hy⟩ : ∃ y, (s[0]'h0).toNat = y := ⟨_, rfl⟩
      rw [hy] at hc0
      have hyne : ((y : Int) == 45) = false := by simp; omega
      clear hs hmn hc0
      go_enter Tryz.func113, Tryz.ntmps113
      go_wp2_with fail
      refine (rread_c s s.size b _ HSb.out hL).mono ?_
      rintro e w1 ⟨x, m, c, d, rfl, hans⟩
      obtain ⟨⟨hz, z0, z1⟩, zf, hw⟩ := boxes1 hans.1
      have HF := hid (FIN.out w1 x m c d hans hw hz)
      clear hans hw
      go_wp2
      exact bodyPost_ret (v := .tuple #[.agg #[.bool false, .slice x m c], .bool (numB b s.size)]) (by simp [results, Tryz.results113, go_sem, z0, z1]) rfl ⟨false, x, m, c, d, _, rfl, HF.out⟩
    · have d0 : decide ((0 : Int) < (s.size : Int)) = false := decide_eq_false (by omega)
      clear hs hmn
      go_enter Tryz.func113, Tryz.ntmps113
      go_wp2_with fail
      refine (rread_c s s.size b _ HSb.out hL).mono ?_
      rintro e w1 ⟨x, m, c, d, rfl, hans⟩
      obtain ⟨⟨hz, z0, z1⟩, zf, hw⟩ := boxes1 hans.1
      have HF := hid (FIN.out w1 x m c d hans hw hz)
      clear hans hw
      go_wp2
      exact bodyPost_ret (v := .tuple #[.agg #[.bool false, .slice x m c], .bool (numB b s.size)]) (by simp [results, Tryz.results113, go_sem, z0, z1]) rfl ⟨false, x, m, c, d, _, rfl, HF.out⟩

end Go.Proofs.YtndiiknbkjlbiaaGreatDoor
namespace Go.Proofs.YtndiiknbkjlbiaaGreatDoor
open Go.RowKit

set_option maxRecDepth 100000 in
set_option maxHeartbeats 800000 in
theorem rword_c {w : World} {x n c d} {V : Nat} (h : Dn w x n d V) (hn : n ≤ 2) :
    Calls Tryz.prog 106 #[.slice x n c] w fun e w' => e = .returned (.int .u64 V) ∧ w' = w := by
  have H := hid h
  clear h
  go_enter Tryz.func106, Tryz.ntmps106
  go_wp2
  go_loop [3, 4] (fun t u => ∃ (k : Nat) (z : Int), k ≤ n ∧ z = (k : Int) - 1 ∧ u = .int .i64 z ∧ ∃ X : Int, t = .int .u64 X ∧ Hid (X = vd (sh d k) (n - k))) (fun _ u => (intOf u + 1).toNat)
  case atStart => exact ⟨n, (n : Int) - 1, by omega, rfl, rfl, 0, rfl, by rw [Nat.sub_self]; rfl⟩
  case round =>
    obtain ⟨k, z, hk, hz, rfl, X, rfl, HX⟩ := hrel
    rcases Nat.eq_zero_or_pos k with h0 | h0
    · subst h0
      have hz' : z < 0 := by omega
      have hd : decide ((0 : Int) ≤ z) = false := by simp; omega
      go_wp2
      go_ret
      refine ⟨?_, rfl⟩
      have h1 : vd (sh d 0) (n - 0) = vd d n := by
        have : sh d 0 = d := by funext j; simp [sh]
        rw [this]; rfl
      have : X = V := by rw [HX.out, h1, H.out.val]
      rw [this]; rfl
    · obtain ⟨j, rfl⟩ : ∃ j, k = j + 1 := ⟨k - 1, by omega⟩
      have hz' : z = (j : Int) := by omega
      subst hz'
      have hr := H.out.rd
      obtain ⟨b, o, rfl⟩ := hr.at (by omega)
      obtain ⟨y, hy⟩ : ∃ y, d j = y := ⟨_, rfl⟩
      have hcell : w.cell? ⟨b, o + j, none⟩ = some (.int .u64 y) := by rw [← hy]; exact hr.cell (by omega)
      obtain ⟨y0, y1⟩ := H.out.dg j (by omega)
      rw [hy] at y0 y1
      have hX : 0 ≤ X ∧ X < 4294967296 := by
        rw [HX.out]
        rcases (show n - (j + 1) = 0 ∨ n - (j + 1) = 1 by omega) with e | e
        · rw [e]; simp [vd]
        · rw [e]
          have e1 : vd (sh d (j + 1)) 1 = d (j + 1) := by simp [vd, pd, sh]
          rw [e1]
          exact H.out.dg (j + 1) (by omega)
      obtain ⟨X0, X1⟩ := hX
      have hs : X * 4294967296 + y = vd (sh d j) (n - j) := by
        rw [show n - j = (n - (j + 1)) + 1 by omega, vd_cons, hy, HX.out]; omega
      have HS := hid hs
      clear hs hy hr hz
      go_wp2
      go_round
      case rel => exact ⟨j, (j : Int) - 1, by omega, rfl, rfl, X * 4294967296 + y, rfl, HS.out⟩
      case measure => simp [intOf]
end Go.Proofs.YtndiiknbkjlbiaaGreatDoor
namespace Go.Proofs.YtndiiknbkjlbiaaGreatDoor
open Go.RowKit

theorem zMk_c (s : Bool) (ao : Option Addr) (n cap : Nat) (w : World) (hm : n ≤ 9223372036854775807) :
    Calls Tryz.prog 69 #[.bool s, .slice ao n cap] w fun e w' => ∃ r, e = .returned (.agg #[.bool r, .slice ao n cap]) ∧ Hid (r = (s && decide (0 < n))) ∧ Below w.heap.size w w' := by
  have key : ∀ u, Below w.heap.size w (w.alloc u) := fun u => below_alloc (Below.refl w.heap.size w) u
  cases s
  · go_enter Tryz.func69, Tryz.ntmps69
    go_wp2
    exact bodyPost_ret (v := .agg #[.bool false, .slice ao n cap]) (by simp [results, Tryz.results69, go_sem]) rfl ⟨false, rfl, rfl, key _⟩
  · by_cases hn0 : 0 < n
    · have hni : decide ((0 : Int) < (n : Int)) = true := by simp; omega
      have hdn : decide (0 < n) = true := by simp; omega
      rw [hdn]
      clear hdn
      go_enter Tryz.func69, Tryz.ntmps69
      go_wp2
      exact bodyPost_ret (v := .agg #[.bool true, .slice ao n cap]) (by simp [results, Tryz.results69, go_sem]) rfl ⟨true, rfl, rfl, key _⟩
    · have hni : decide ((0 : Int) < (n : Int)) = false := by simp; omega
      have hdn : decide (0 < n) = false := by simp; omega
      rw [hdn]
      clear hdn
      go_enter Tryz.func69, Tryz.ntmps69
      go_wp2
      exact bodyPost_ret (v := .agg #[.bool false, .slice ao n cap]) (by simp [results, Tryz.results69, go_sem]) rfl ⟨false, rfl, rfl, key _⟩

/-- A new box for an answer of three cells. -/
structure Ob (w : World) (B : Nat) : Prop where
  z : B < w.heap.size
  z0 : w.cell? ⟨B, 0, none⟩ = some (.bool false)
  z1 : w.cell? ⟨B, 1, none⟩ = some (.slice none 0 0)
  z2 : w.cell? ⟨B, 2, none⟩ = some (.slice none 0 0)
  zf : ∀ o, w.frozen? ⟨B, o, none⟩ = false
theorem Ob.below {w w' B} (h : Ob w B) (hb : Below w.heap.size w w') : Ob w' B := by
  obtain ⟨h1, h2⟩ := bcell hb
  exact ⟨Nat.lt_of_lt_of_le h.z hb.size, kCb hb h.z0, kCb hb h.z1, kCb hb h.z2, fun o => (h2 _ _ h.z).trans (h.zf o)⟩
theorem kOb {w w' B} (hb : Below w.heap.size w w') (h : Ob w B) : Ob w' B := h.below hb
theorem kDb {w w' x n d V} (hb : Below w.heap.size w w') (h : Dn w x n d V) : Dn w' x n d V := h.below hb
theorem Ob.alloc {w B} (h : Ob w B) (o : Obj) : Ob (w.alloc o) B := h.below (below_alloc (Below.refl _ _) o)
theorem Ob.next {w w' B} {o : Obj} (h : Ob w B) (hb : Below (w.alloc o).heap.size (w.alloc o) w') : Ob w' B := (h.alloc o).below hb
theorem Ob.drew {w B} (h : Ob w B) : Ob w.drew B := ⟨h.z, h.z0, h.z1, h.z2, h.zf⟩
theorem Ob.drewN {w B} (h : Ob w B) (q : Nat) : Ob (w.drewN q) B := ⟨h.z, h.z0, h.z1, h.z2, h.zf⟩
theorem ob_new (w : World) (t : TypeId) : Ob (w.alloc (.cells #[.bool false, .slice none 0 0, .slice none 0 0] t)) w.heap.size := by
  refine ⟨by simp, by simp [go_sem], by simp [go_sem], by simp [go_sem], fun o => ?_⟩
  have e := heap_alloc_new w (.cells #[.bool false, .slice none 0 0, .slice none 0 0] t)
  simp only [World.frozen?, e]; simp
theorem rd_setne {w : World} {p : Addr} {v u : Value} {x n f} (hp : w.cell? p = some v) (hv : ∀ i, v ≠ .int .u64 i) (h : Rd .u64 w x n f) : Rd .u64 (w.setCell p u) x n f := by
  intro j hj
  obtain ⟨b, o, hx, hc⟩ := h j hj
  refine ⟨b, o, hx, ?_⟩
  rw [World.cell?_setCell_other _ _ _ _ (fun he => hv _ (Option.some.inj (hp.symm.trans (he ▸ hc))))]
  exact hc
theorem Ob.rd {w B u0 u1 u2 x n f} (h : Ob w B) (hx : Rd .u64 w x n f) : Rd .u64 (((w.setCell ⟨B, 0, none⟩ u0).setCell ⟨B, 1, none⟩ u1).setCell ⟨B, 2, none⟩ u2) x n f :=
  rd_setne (cell_off (by decide) (cell_off (by decide) h.z2)) (fun i h => by cases h) (rd_setne (cell_off (by decide) h.z1) (fun i h => by cases h) (rd_setne h.z0 (fun i h => by cases h) hx))
theorem Ob.wn {w B u0 u1 u2 s x n c f v} (h : Ob w B) (hx : Wn w s x n c f v) : Wn (((w.setCell ⟨B, 0, none⟩ u0).setCell ⟨B, 1, none⟩ u1).setCell ⟨B, 2, none⟩ u2) s x n c f v := ⟨h.rd hx.rd, hx.lm, hx.wf, hx.cap, hx.nil, hx.val⟩
theorem Ob.dn {w B u0 u1 u2 x n d V} (h : Ob w B) (hx : Dn w x n d V) : Dn (((w.setCell ⟨B, 0, none⟩ u0).setCell ⟨B, 1, none⟩ u1).setCell ⟨B, 2, none⟩ u2) x n d V := ⟨h.rd hx.rd, hx.dg, hx.fm, hx.val⟩
theorem Ob.rn {w B u0 u1 u2 L s x n c f y m d g q} (h : Ob w B) (hx : Rn L w s x n c f y m d g q) : Rn L (((w.setCell ⟨B, 0, none⟩ u0).setCell ⟨B, 1, none⟩ u1).setCell ⟨B, 2, none⟩ u2) s x n c f y m d g q := ⟨h.wn hx.num, h.wn hx.den, hx.ln, hx.ld⟩
theorem below_st {w0 w : World} {B : Nat} {u0 u1 u2 : Value} (hw : Below w0.heap.size w0 w) (hB : w0.heap.size ≤ B) :
    Below w0.heap.size w0 (((w.setCell ⟨B, 0, none⟩ u0).setCell ⟨B, 1, none⟩ u1).setCell ⟨B, 2, none⟩ u2) :=
  below_turned hw hw.size ((((Turned.refl w0.heap.size (B + 1) w).set (x := ⟨B, 0, none⟩) hB (by simp) _).set (x := ⟨B, 1, none⟩) hB (by simp) _).set (x := ⟨B, 2, none⟩) hB (by simp) _) (Nat.le_refl _)
theorem Dn.drewN {w x n d V} (h : Dn w x n d V) (q : Nat) : Dn (w.drewN q) x n d V := ⟨h.rd, h.dg, h.fm, h.val⟩
theorem dn64 {w x n d V} (h : Dn w x n d V) (hn : n ≤ 2) : V < 18446744073709551616 := by
  have h1 := vd_lt h.dg
  rw [h.val] at h1
  rcases (show n = 0 ∨ n = 1 ∨ n = 2 by omega) with rfl | rfl | rfl <;> simp [pd] at h1 <;> omega

set_option maxRecDepth 100000 in
set_option maxHeartbeats 4000000 in
theorem mkSmall_c {w : World} {s x n c d y m e g} {A B : Nat} (ha : Dn w x n d A) (hb : Dn w y m g B) (h0 : 0 < A) (hn : n ≤ 2) (hm : m ≤ 2) (hB : 0 < B) :
    Calls Tryz.prog 73 #[.agg #[.bool s, .slice x n c], .slice y m e] w fun en w' => ∃ r z k c' d' z2 k2 c2 d2, en = .returned (.agg #[.bool r, .slice z k c', .slice z2 k2 c2]) ∧ Below w.heap.size w w' ∧ k ≤ 2 ∧ k2 ≤ 2 ∧ r = (s && decide (0 < k)) ∧ Dn w' z k d' (A / A.gcd B) ∧ Dn w' z2 k2 d2 (B / A.gcd B) := by
  have hA64 := dn64 ha hn; have hB64 := dn64 hb hm
  have hnp : 0 < n := by
    rcases Nat.eq_zero_or_pos n with h | h
    · subst h; have : (0 : Int) = A := ha.val; omega
    · exact h
  have h1 := (ha.alloc (.cells #[.bool s, .slice x n c] 70)).alloc (.cells #[.bool false, .slice none 0 0, .slice none 0 0] 72)
  have h2 := (hb.alloc (.cells #[.bool s, .slice x n c] 70)).alloc (.cells #[.bool false, .slice none 0 0, .slice none 0 0] 72)
  have h3 := ob_new (w.alloc (.cells #[.bool s, .slice x n c] 70)) 72
  rw [size_alloc1] at h3
  have h4 := below_alloc (below_alloc (Below.refl w.heap.size w) (.cells #[.bool s, .slice x n c] 70)) (.cells #[.bool false, .slice none 0 0, .slice none 0 0] 72)
  have h5 : (((w.alloc (.cells #[.bool s, .slice x n c] 70)).alloc (.cells #[.bool false, .slice none 0 0, .slice none 0 0] 72)).cell? ⟨w.heap.size, 0, none⟩ = some (.bool s)) := by simp [go_sem]
  clear ha hb
  have hn0 : ((n : Int) == 0) = false := by simp; omega
  have hn2 : decide ((n : Int) ≤ 2) = true := by simp; omega
  have hm2 : decide ((m : Int) ≤ 2) = true := by simp; omega
  go_enter Tryz.func73, Tryz.ntmps73
  go_wp2_with fail
  generalize (w.alloc (.cells #[.bool s, .slice x n c] 70)).alloc (.cells #[.bool false, .slice none 0 0, .slice none 0 0] 72) = w1 at *
  have HA := hid h1; have HB := hid h2; have OB := hid h3; have HW := hid h4
  obtain ⟨hz, z0, z1, z2, zf⟩ := h3
  clear h1 h2 h4
  refine (rword_c HA.out hn).mono ?_
  rintro en w2 ⟨rfl, rfl⟩
  go_wp2_with fail
  refine (rword_c HB.out hm).mono ?_
  rintro en w3 ⟨rfl, rfl⟩
  go_wp2
  go_loopw [7, 8] (fun t u wr => ∃ (G R q : Nat), t = .int .u64 G ∧ u = .int .u64 R ∧ wr = w3.drewN q ∧ 0 < G ∧ G < 18446744073709551616 ∧ R < 18446744073709551616 ∧ Hid (G.gcd R = A.gcd B)) (fun _ u _ => (intOf u).toNat)
  case atStart => exact ⟨A, B, 0, rfl, rfl, rfl, h0, hA64, hB64, rfl⟩
  case round =>
    obtain ⟨G, R, q, rfl, rfl, rfl, hG0, hG64, hR64, HG⟩ := hrel
    by_cases hR : 0 < R
    · have hd : decide ((0 : Int) < (R : Int)) = true := by simp; omega
      have hne : ((R : Int) == 0) = false := by simp; omega
      have hne' : (R : Int) ≠ 0 := by omega
      go_wp2
      go_quiet (fail)
      go_wp2
      go_roundw
      case rel => exact ⟨R, G % R, _, rfl, by simp, by (repeat rw [World.drewN_drewN]) <;> rfl, hR, hR64, by have := Nat.mod_lt G hR; omega, hid (by rw [Nat.gcd_comm, ← Nat.gcd_rec, Nat.gcd_comm]; exact HG.out)⟩
      case measure => have := Nat.mod_lt G hR; simp only [intOf]; omega
    · have hd : decide ((0 : Int) < (R : Int)) = false := by simp; omega
      have hR0 : R = 0 := by omega
      subst hR0
      have hg : G = A.gcd B := by have := HG.out; rw [Nat.gcd_zero_right] at this; exact this
      go_wp2
      have hwq : Below w.heap.size w (w3.drewN q) := below_drewN HW.out q
      have OQ := OB.out.drewN q
      have hcq : (w3.drewN q).cell? ⟨w.heap.size, 0, none⟩ = some (.bool s) := h5
      have hGi : (G : Int) ≠ 0 := by omega
      have hGi' : ((G : Int) == 0) = false := by simp; omega
      have hGp : (0 : Int) < (G : Int) := by omega
      have hGm : (G : Int) < 18446744073709551616 := by omega
      have hA0 : (0 : Int) ≤ (A : Int) := by omega
      have hAm : (A : Int) < 18446744073709551616 := by omega
      have hB0 : (0 : Int) ≤ (B : Int) := by omega
      have hBm : (B : Int) < 18446744073709551616 := by omega
      obtain ⟨QA, hqa⟩ : ∃ q : Int, (A : Int) / (G : Int) = q := ⟨_, rfl⟩
      obtain ⟨QB, hqb⟩ : ∃ q : Int, (B : Int) / (G : Int) = q := ⟨_, rfl⟩
      have hQA0 : 0 ≤ QA := by rw [← hqa]; exact Int.ediv_nonneg hA0 (by omega)
      have hQB0 : 0 ≤ QB := by rw [← hqb]; exact Int.ediv_nonneg hB0 (by omega)
      have hQA1 : QA < 18446744073709551616 := by have := Int.ediv_le_self (b := (G : Int)) hA0; omega
      have hQB1 : QB < 18446744073709551616 := by have := Int.ediv_le_self (b := (G : Int)) hB0; omega
      have HqA : Hid (QA = ((A / G : Nat) : Int)) := hid (by rw [← hqa]; exact (Int.natCast_ediv _ _).symm)
      have HqB : Hid (QB = ((B / G : Nat) : Int)) := hid (by rw [← hqb]; exact (Int.natCast_ediv _ _).symm)
      have HG2 := hid hg
      clear hg
      clear HG hz z0 z1 z2 zf OB h5
      generalize w3.drewN q = w4 at *
      clear hG64 hA64 hB64 hR64 hd hG0
      generalize hgi : (G : Int) = Gi at *
      generalize hai : (A : Int) = Ai at *
      generalize hbi : (B : Int) = Bi at *
      have HgI := hid hgi; have HaI := hid hai; have HbI := hid hbi
      have hGn : ¬ (Gi = 0) := hGi
      clear hgi hai hbi hGi
      have hwa : IntKind.u64.wrap (Ai.tdiv Gi) = QA := by rw [Int.tdiv_eq_ediv_of_nonneg hA0, hqa, IntKind.wrap_u64]; omega
      have hwb : IntKind.u64.wrap (Bi.tdiv Gi) = QB := by rw [Int.tdiv_eq_ediv_of_nonneg hB0, hqb, IntKind.wrap_u64]; omega
      clear hqa hqb
      obtain ⟨hz, z0, z1, z2, zf⟩ := id OQ
      have C1 : Hid (∀ W, Below w4.heap.size w4 W → Calls Tryz.prog 84 #[.int .u64 QA] W fun e w' => ∃ z k cap d, e = .returned (.slice z k cap) ∧ Below W.heap.size W w' ∧ Hid (k ≤ 2 ∧ Dn w' z k d (A / G))) := fun W hW => by
        exact (word2_c QA W hQA0 hQA1).mono (fun e w' ⟨k, cap, h1, h2, h3, h4, h5, h6, h7⟩ => ⟨_, k, cap, _, h1, h2, h3, h4, h5, h6, h7.trans HqA.out⟩)
      have C2 : Hid (∀ W, Below w4.heap.size w4 W → Calls Tryz.prog 84 #[.int .u64 QB] W fun e w' => ∃ z k cap d, e = .returned (.slice z k cap) ∧ Below W.heap.size W w' ∧ Hid (k ≤ 2 ∧ Dn w' z k d (B / G))) := fun W hW => by
        exact (word2_c QB W hQB0 hQB1).mono (fun e w' ⟨k, cap, h1, h2, h3, h4, h5, h6, h7⟩ => ⟨_, k, cap, _, h1, h2, h3, h4, h5, h6, h7.trans HqB.out⟩)
      have C3 : Hid (∀ (W : World) (z : Option Addr) (k cap : Nat), k ≤ 2 → Calls Tryz.prog 69 #[.bool s, .slice z k cap] W fun e w' => ∃ r, e = .returned (.agg #[.bool r, .slice z k cap]) ∧ Below W.heap.size W w' ∧ Hid (r = (s && decide (0 < k)))) := fun W z k cap hk => (zMk_c s z k cap W (by omega)).mono (fun e w' ⟨r, h1, h2, h3⟩ => ⟨r, h1, h3, h2⟩)
      go_region_held3 (fun w' => w'.cell? ⟨w.heap.size, 0, none⟩ = some (.bool s) ∧ (w'.cell? ⟨w.heap.size + 1, 0, none⟩).isSome = true ∧ (w'.cell? ⟨w.heap.size + 1, 1, none⟩).isSome = true ∧ (w'.cell? ⟨w.heap.size + 1, 2, none⟩).isSome = true ∧ w'.frozen? ⟨w.heap.size + 1, 0, none⟩ = false ∧ w'.frozen? ⟨w.heap.size + 1, 1, none⟩ = false ∧ w'.frozen? ⟨w.heap.size + 1, 2, none⟩ = false)
        (refine ⟨?_, ?_, ?_, ?_, ?_, ?_, ?_⟩ <;> repeat (with_reducible first | assumption | exact zf _ | exact tf _ | exact uf _ | exact vf' _ | exact kI0 z0 | exact kI0 z1 | exact kI0 z2 | exact kI0 t0 | exact kI0 t1 | exact kI0 t2 | exact kI0 u0 | exact kI0 u1 | exact kI0 u2 | exact kI0 v0 | exact kI0 v1 | exact kI0 v2 | refine kCd ?_ | refine kId ?_ | refine kFd ?_ | refine kCs (by simp only [ne_eq]; omega) ?_ | refine kIs ?_ | refine kFs ?_ | refine kCb (by assumption) ?_ | refine kIb (by assumption) ?_))
        (first
          | (go_at_call 84; with_reducible refine (C1.out _ (by repeat (with_reducible first | assumption | exact Below.refl _ _ | refine Below.drew ?_ | refine kBa ?_ | refine kBb (by assumption) ?_))).mono ?_; rintro e w5 ⟨za, ka, ca, da, rfl, hb5, HP⟩; have hka : ka ≤ 2 := HP.out.1; have TU : Ob w5 (w.heap.size + 1) := (by repeat (with_reducible first | exact OQ | exact TU | exact TV | exact TW | refine Ob.drew ?_ | refine kOb (by assumption) ?_)); obtain ⟨_, t0, t1, t2, tf⟩ := id TU)
          | (go_at_call 69; with_reducible refine (C3.out _ za ka ca hka).mono ?_; rintro e w6 ⟨r, rfl, hb6, HR⟩; have TV : Ob w6 (w.heap.size + 1) := (by repeat (with_reducible first | exact OQ | exact TU | exact TV | exact TW | refine Ob.drew ?_ | refine kOb (by assumption) ?_)); obtain ⟨_, u0, u1, u2, uf⟩ := id TV)
          | (go_at_call 84; with_reducible refine (C2.out _ (by repeat (with_reducible first | assumption | exact Below.refl _ _ | refine Below.drew ?_ | refine kBa ?_ | refine kBb (by assumption) ?_))).mono ?_; rintro e w7 ⟨zb, kb, cb, db, rfl, hb7, HQ⟩; have hkb : kb ≤ 2 := HQ.out.1; have TW : Ob w7 (w.heap.size + 1) := (by repeat (with_reducible first | exact OQ | exact TU | exact TV | exact TW | refine Ob.drew ?_ | refine kOb (by assumption) ?_)); obtain ⟨_, v0, v1, v2, vf'⟩ := id TW))
      have hb : Below w4.heap.size w4 w7 := (by repeat (with_reducible first | assumption | exact Below.refl _ _ | refine Below.drew ?_ | refine kBa ?_ | refine kBb (by assumption) ?_))
      have DA := HP.out.2; have DB := HQ.out.2
      have DA7 : Dn w7 za ka da (A / G) := (by repeat (with_reducible first | exact DA | refine Dn.drew ?_ | refine kDb (by first | exact hb6 | exact hb7) ?_))
      go_wp2
      refine bodyPost_ret (v := .agg #[.bool r, .slice za ka ca, .slice zb kb cb]) (by simp [results, Tryz.results73, go_sem, v0, v1, v2]) rfl ⟨r, za, ka, ca, da, zb, kb, cb, db, rfl, below_st (hwq.trans (hb.mono hwq.size)) (by omega), hka, hkb, HR.out, ?_, ?_⟩
      · rw [← HG2.out]; exact TW.dn DA7
      · rw [← HG2.out]; exact TW.dn DB
end Go.Proofs.YtndiiknbkjlbiaaGreatDoor
namespace Go.Proofs.YtndiiknbkjlbiaaGreatDoor
open Go.RowKit

theorem Tg.set {w x} (h : Tg w x) (p : Addr) (u : Value) : Tg (w.setCell p u) x := fun a ha => by
  obtain ⟨arr, fr, hh⟩ := h a ha
  by_cases e : a.block = p.block
  · refine ⟨if p.spot.isSome then arr else arr.setIfInBounds p.off u, fr, ?_⟩
    rw [e] at hh ⊢
    simp [World.setCell, Array.getElem?_modify, hh]
  · exact ⟨arr, fr, (Below.heap_setCell w p u a.block e).trans hh⟩
theorem Tg.alloc {w x} (h : Tg w x) (o : Obj) : Tg (w.alloc o) x := h.below (below_alloc (Below.refl _ _) o)
theorem make_made {u v : Int} {s t : Bool} (hu : u = sg s u.natAbs) (hv : v = sg t v.natAbs) (h0 : 0 < v.natAbs) :
    ((u : Rat) / (v : Rat)).num = sg (s != t) (u.natAbs / u.natAbs.gcd v.natAbs) ∧ ((u : Rat) / (v : Rat)).den = v.natAbs / u.natAbs.gcd v.natAbs := by
  have e1 := Nat.div_mul_cancel (Nat.gcd_dvd_left u.natAbs v.natAbs)
  have e2 := Nat.div_mul_cancel (Nat.gcd_dvd_right u.natAbs v.natAbs)
  have := rmake (s := s) (t := t) (NA := u.natAbs / u.natAbs.gcd v.natAbs) (NB := v.natAbs / u.natAbs.gcd v.natAbs) (G := u.natAbs.gcd v.natAbs) (by rw [e2]; exact h0) (by rw [e1, e2])
  rw [e1, e2, ← hu, ← hv] at this
  exact this
/-- A number that a call answers without an error; its lists lie in blocks of limbs. -/
def RatTgt (L : Nat) (w w' : World) (e : Ending) (q : Rat) : Prop := ∃ s x n c f y m d g, e = .returned (.tuple #[.agg #[.bool s, .slice x n c, .slice y m d], .int .i64 0]) ∧ Below w.heap.size w w' ∧ Rn L w' s x n c f y m d g q ∧ Tg w' x ∧ Tg w' y
/-- The like, alone. -/
def RatTga (L : Nat) (w w' : World) (e : Ending) (q : Rat) : Prop := ∃ s x n c f y m d g, e = .returned (.agg #[.bool s, .slice x n c, .slice y m d]) ∧ Below w.heap.size w w' ∧ Rn L w' s x n c f y m d g q ∧ Tg w' x ∧ Tg w' y
theorem own_wn {w base x n c f} {V : Nat} (h : Own .u64 83 w base (.slice x n c) n f) (hl : Lm f n) (hf : Fm f n) (hv : vf f n = V) : Wn w false x n c f (V : Int) := by
  obtain ⟨h1, h2, h3, h4, _⟩ := h.slice
  exact ⟨h4, hl, (wfB_iff _ _ _).2 ⟨hf, fun h => by cases h⟩, ⟨h1, h2⟩, h3, hv⟩
theorem toWn_c {w x n c d} {V : Nat} (h : Dn w x n d V) (hn : n ≤ 1048576) :
    Calls Tryz.prog 83 #[.slice x n c] w fun e w' => ∃ z k c' f, e = .returned (.slice z k c') ∧ Below w.heap.size w w' ∧ Hid (k ≤ n ∧ Wn w' false z k c' f (V : Int) ∧ Tg w' z) :=
  (toOwn_c x n c d w hn h.rd h.dg h.fm).mono (fun _ _ ⟨z, k, c', f, h1, h2, h3, _, h4, h5, h6, h7⟩ => ⟨z, k, c', f, h1, h3, h4, own_wn h2 h5 h6 (h7.trans h.val), h2.tg⟩)
theorem fromDn_c {w s x n c f v} (h : Wn w s x n c f v) (hn : n ≤ 1048576) :
    Calls Tryz.prog 62 #[.slice x n c] w fun e w' => ∃ z k c', e = .returned (.slice z k c') ∧ Below w.heap.size w w' ∧ Hid (k ≤ 2 * n ∧ Dn w' z k (dig f) v.natAbs) :=
  (from_c x n c f w hn h.rd h.lm).mono (fun _ _ ⟨z, k, c', h1, h2, h3, h4, _, h6, h7, h8⟩ => ⟨z, k, c', h1, h2, h4, h3, h6, h7, h8.trans h.mag.nv⟩)

set_option maxRecDepth 100000 in
set_option maxHeartbeats 4000000 in
theorem qTo_c {w : World} {r : Bool} {x n c d y m e g} {A B : Nat} (ha : Dn w x n d A) (hb : Dn w y m g B) (hn : n ≤ 4096) (hm : m ≤ 4096) :
    Calls Tryz.prog 41 #[.agg #[.bool r, .slice x n c, .slice y m e]] w fun en w' => ∃ z k c' f z2 k2 c2 f2, en = .returned (.agg #[.bool r, .slice z k c', .slice z2 k2 c2]) ∧ Below w.heap.size w w' ∧ k ≤ n ∧ k2 ≤ m ∧ Wn w' false z k c' f (A : Int) ∧ Wn w' false z2 k2 c2 f2 (B : Int) ∧ Tg w' z ∧ Tg w' z2 := by
  have h1 := (ha.alloc (.cells #[.bool r, .slice x n c, .slice y m e] 72)).alloc (.cells #[.bool false, .slice none 0 0, .slice none 0 0] 24)
  have h2 := (hb.alloc (.cells #[.bool r, .slice x n c, .slice y m e] 72)).alloc (.cells #[.bool false, .slice none 0 0, .slice none 0 0] 24)
  have h3 := ob_new (w.alloc (.cells #[.bool r, .slice x n c, .slice y m e] 72)) 24
  rw [size_alloc1] at h3
  have h4 := below_alloc (below_alloc (Below.refl w.heap.size w) (.cells #[.bool r, .slice x n c, .slice y m e] 72)) (.cells #[.bool false, .slice none 0 0, .slice none 0 0] 24)
  have h5 := (bx3_at w (.bool r) (.slice x n c) (.slice y m e) 72).alloc (.cells #[.bool false, .slice none 0 0, .slice none 0 0] 24)
  clear ha hb
  go_enter Tryz.func41, Tryz.ntmps41
  go_wp2_with fail
  generalize (w.alloc (.cells #[.bool r, .slice x n c, .slice y m e] 72)).alloc (.cells #[.bool false, .slice none 0 0, .slice none 0 0] 24) = w1 at *
  have HA := hid h1; have HB := hid h2; have OB := h3; have HW := hid h4
  obtain ⟨hz, z0, z1, z2, zf⟩ := h3
  obtain ⟨hy, x0, x1, x2⟩ := h5
  clear h1 h2 h4
  have C1 : Hid (∀ W, Below w1.heap.size w1 W → Calls Tryz.prog 83 #[.slice x n c] W fun e w' => ∃ z k c' f, e = .returned (.slice z k c') ∧ Below W.heap.size W w' ∧ Hid (k ≤ n ∧ Wn w' false z k c' f (A : Int) ∧ Tg w' z)) := fun W hW => toWn_c (HA.out.below hW) (by omega)
  have C2 : Hid (∀ W, Below w1.heap.size w1 W → Calls Tryz.prog 83 #[.slice y m e] W fun e w' => ∃ z k c' f, e = .returned (.slice z k c') ∧ Below W.heap.size W w' ∧ Hid (k ≤ m ∧ Wn w' false z k c' f (B : Int) ∧ Tg w' z)) := fun W hW => toWn_c (HB.out.below hW) (by omega)
  go_region_held3 (fun w' => w'.cell? ⟨w.heap.size, 0, none⟩ = some (.bool r) ∧ w'.cell? ⟨w.heap.size, 1, none⟩ = some (.slice x n c) ∧ w'.cell? ⟨w.heap.size, 2, none⟩ = some (.slice y m e) ∧ (w'.cell? ⟨w.heap.size + 1, 0, none⟩).isSome = true ∧ (w'.cell? ⟨w.heap.size + 1, 1, none⟩).isSome = true ∧ (w'.cell? ⟨w.heap.size + 1, 2, none⟩).isSome = true ∧ w'.frozen? ⟨w.heap.size + 1, 0, none⟩ = false ∧ w'.frozen? ⟨w.heap.size + 1, 1, none⟩ = false ∧ w'.frozen? ⟨w.heap.size + 1, 2, none⟩ = false)
    (refine ⟨?_, ?_, ?_, ?_, ?_, ?_, ?_, ?_, ?_⟩ <;> repeat (with_reducible first | assumption | exact zf _ | exact kI0 z0 | exact kI0 z1 | exact kI0 z2 | exact tf _ | exact kI0 t0 | exact kI0 t1 | exact kI0 t2 | exact uf _ | exact kI0 u0 | exact kI0 u1 | exact kI0 u2 | refine kCd ?_ | refine kId ?_ | refine kFd ?_ | refine kCs (by simp only [ne_eq]; omega) ?_ | refine kIs ?_ | refine kFs ?_ | refine kCb (by assumption) ?_ | refine kIb (by assumption) ?_))
    (first
      | (go_at_call 83; with_reducible refine (C1.out _ (by repeat (with_reducible first | assumption | exact Below.refl _ _ | refine Below.drew ?_ | refine kBa ?_ | refine kBb (by assumption) ?_))).mono ?_; rintro e w5 ⟨za, ka, ca, fa, rfl, hb5, HP⟩; have TU : Ob w5 (w.heap.size + 1) := (by repeat (with_reducible first | exact OB | exact hO2 | exact TU | exact TV | exact TW | exact TX | exact TY | refine Ob.drew ?_ | refine kOb (by assumption) ?_)); obtain ⟨_, t0, t1, t2, tf⟩ := id TU)
      | (go_at_call 83; with_reducible refine (C2.out _ (by repeat (with_reducible first | assumption | exact Below.refl _ _ | refine Below.drew ?_ | refine kBa ?_ | refine kBb (by assumption) ?_))).mono ?_; rintro e w6 ⟨zb, kb, cb, fb, rfl, hb6, HQ⟩; have TV : Ob w6 (w.heap.size + 1) := (by repeat (with_reducible first | exact OB | exact hO2 | exact TU | exact TV | exact TW | exact TX | exact TY | refine Ob.drew ?_ | refine kOb (by assumption) ?_)); obtain ⟨_, u0, u1, u2, uf⟩ := id TV))
  have WA : Wn w6 false za ka ca fa (A : Int) := HP.out.2.1.below hb6
  have hb : Below w1.heap.size w1 w6 := (by repeat (with_reducible first | assumption | exact Below.refl _ _ | refine Below.drew ?_ | refine kBa ?_ | refine kBb (by assumption) ?_))
  go_wp2
  exact bodyPost_ret (v := .agg #[.bool r, .slice za ka ca, .slice zb kb cb]) (by simp [results, Tryz.results41, go_sem, u0, u1, u2]) rfl ⟨za, ka, ca, fa, zb, kb, cb, fb, rfl, below_st (HW.out.trans (hb.mono HW.out.size)) (by omega), HP.out.1, HQ.out.1, TV.wn WA, TV.wn HQ.out.2.1, ((((HP.out.2.2.below hb6).set _ _).set _ _).set _ _), (((HQ.out.2.2.set _ _).set _ _).set _ _)⟩

theorem mk_boxes {w w1 : World} {sa xa na ca sb xb nb cb} (hb : Below (((w.alloc (.cells #[.bool sa, .slice xa na ca] 45)).alloc (.cells #[.bool sb, .slice xb nb cb] 45)).alloc (.cells #[.bool false, .slice none 0 0, .slice none 0 0] 24)).heap.size (((w.alloc (.cells #[.bool sa, .slice xa na ca] 45)).alloc (.cells #[.bool sb, .slice xb nb cb] 45)).alloc (.cells #[.bool false, .slice none 0 0, .slice none 0 0] 24)) w1) :
    Bx w1 w.heap.size sa xa na ca ∧ Bx w1 (w.heap.size + 1) sb xb nb cb ∧ Ob w1 (w.heap.size + 1 + 1) ∧ Below w.heap.size w w1 := by
  have h0 : Bx (w.alloc (.cells #[.bool sa, .slice xa na ca] 45)) w.heap.size sa xa na ca := ⟨by simp, kN0, kN1⟩
  have h1 : Bx ((w.alloc (.cells #[.bool sa, .slice xa na ca] 45)).alloc (.cells #[.bool sb, .slice xb nb cb] 45)) (w.heap.size + 1) sb xb nb cb := by
    have := size_alloc1 w (.cells #[.bool sa, .slice xa na ca] 45)
    refine ⟨by simp, ?_, ?_⟩
    · rw [← this]; exact kN0
    · rw [← this]; exact kN1
  have h2 := ob_new ((w.alloc (.cells #[.bool sa, .slice xa na ca] 45)).alloc (.cells #[.bool sb, .slice xb nb cb] 45)) 24
  rw [size_alloc1, size_alloc1] at h2
  exact ⟨((h0.alloc _).alloc _).below hb, (h1.alloc _).below hb, h2.below hb, (below_alloc (below_alloc (below_alloc (Below.refl w.heap.size w) _) _) _).trans (hb.mono (by simp; omega))⟩

set_option maxRecDepth 100000 in
set_option maxHeartbeats 4000000 in
theorem docMake_c {w : World} {sa : Bool} {xa : Option Addr} {na ca : Nat} {fa : Nat → Int} {sb : Bool} {xb : Option Addr} {nb cb : Nat} {fb : Nat → Int} {u v : Int} (ha : Wn w sa xa na ca fa u) (hb : Wn w sb xb nb cb fb v) (hu : u ≠ 0) (hv : v ≠ 0) (hna : na ≤ 1) (hnb1 : nb ≤ 1) :
    Calls Tryz.prog 28 #[.agg #[.bool sa, .slice xa na ca], .agg #[.bool sb, .slice xb nb cb]] w fun e w' => RatTgt 2 w w' e ((u : Rat) / (v : Rat)) := by
  have HA0 := hid ha; have HB0 := hid hb
  have hvA : 0 < v.natAbs := by omega
  have hnb : 0 < nb := hb.mag.pos (by omega)
  clear ha hb
  have hn0 : ((nb : Int) == 0) = false := by simp; omega
  go_enter Tryz.func28, Tryz.ntmps28
  go_wp2_with fail
  refine (rwForm_c sa xa na ca fa _ (by omega) (((HA0.out.alloc _).alloc _).alloc _).rd).mono ?_
  rintro e w1 ⟨rfl, hb⟩
  rw [HA0.out.wf]
  obtain ⟨ba, bb, ob, hw⟩ := mk_boxes hb
  have BA1 := hid ba; have BB1 := hid bb; have OB1 := hid ob; have HW1 := hid hw; have HA1 := hid (HA0.out.below hw); have HB1 := hid (HB0.out.below hw)
  clear ba bb ob hw hb HA0 HB0
  obtain ⟨zb, b0, b1⟩ := BB1.out
  go_wp2_with fail
  refine (rwForm_c sb xb nb cb fb _ (by omega) HB1.out.rd).mono ?_
  rintro e w2 ⟨rfl, hb⟩
  rw [HB1.out.wf]
  clear zb b0 b1
  have BA2 := hid (BA1.out.below hb); have BB2 := hid (BB1.out.below hb); have OB2 := hid (OB1.out.below hb); have HA2 := hid (HA1.out.below hb); have HB2 := hid (HB1.out.below hb); have HW2 := hid (HW1.out.trans (hb.mono HW1.out.size))
  clear BA1 BB1 OB1 HA1 HB1 HW1 hb
  obtain ⟨za, a0, a1⟩ := BA2.out
  obtain ⟨zb, b0, b1⟩ := BB2.out
  obtain ⟨hz, z0, z1, z2, zf⟩ := OB2.out
  have hO2 := OB2.out
  have C1 : Hid (∀ W, Below w2.heap.size w2 W → Calls Tryz.prog 62 #[.slice xa na ca] W fun e w' => ∃ z k c', e = .returned (.slice z k c') ∧ Below W.heap.size W w' ∧ Hid (k ≤ 2 * na ∧ Dn w' z k (dig fa) u.natAbs)) := fun W hW => fromDn_c (HA2.out.below hW) (by omega)
  have C2 : Hid (∀ W, Below w2.heap.size w2 W → Calls Tryz.prog 62 #[.slice xb nb cb] W fun e w' => ∃ z k c', e = .returned (.slice z k c') ∧ Below W.heap.size W w' ∧ Hid (k ≤ 2 * nb ∧ Dn w' z k (dig fb) v.natAbs)) := fun W hW => fromDn_c (HB2.out.below hW) (by omega)
  have C3 : Hid (∀ (W : World) (z : Option Addr) (k cap : Nat), k ≤ 2 → Calls Tryz.prog 69 #[.bool (!(sa == sb)), .slice z k cap] W fun e w' => ∃ r, e = .returned (.agg #[.bool r, .slice z k cap]) ∧ Below W.heap.size W w' ∧ Hid (r = ((!(sa == sb)) && decide (0 < k)))) := fun W z k cap hk => (zMk_c (!(sa == sb)) z k cap W (by omega)).mono (fun e w' ⟨r, h1, h2, h3⟩ => ⟨r, h1, h3, h2⟩)
  have C4 : Hid (∀ (W : World) (r : Bool) (z : Option Addr) (k cap : Nat) (y : Option Addr) (m e : Nat), k ≤ 2 → m ≤ 2 → Dn W z k (dig fa) u.natAbs → Dn W y m (dig fb) v.natAbs → Calls Tryz.prog 73 #[.agg #[.bool r, .slice z k cap], .slice y m e] W fun e w' => ∃ r' z k c' z2 k2 c2, e = .returned (.agg #[.bool r', .slice z k c', .slice z2 k2 c2]) ∧ Below W.heap.size W w' ∧ Hid (k ≤ 2 ∧ k2 ≤ 2 ∧ r' = (r && decide (0 < k)) ∧ (∃ d', Dn w' z k d' (u.natAbs / u.natAbs.gcd v.natAbs)) ∧ ∃ d2, Dn w' z2 k2 d2 (v.natAbs / u.natAbs.gcd v.natAbs))) := fun W r z k cap y m e hk hm h1 h2 => (mkSmall_c h1 h2 (by omega) hk hm hvA).mono (fun e w' ⟨r', z, k, c', d', z2, k2, c2, d2, h1, h2, h3, h4, h5, h6, h7⟩ => ⟨r', z, k, c', z2, k2, c2, h1, h2, h3, h4, h5, ⟨d', h6⟩, d2, h7⟩)
  have C5 : Hid (∀ (W : World) (r : Bool) (z : Option Addr) (k cap : Nat) (y : Option Addr) (m e : Nat), k ≤ 2 → m ≤ 2 → (∃ d', Dn W z k d' (u.natAbs / u.natAbs.gcd v.natAbs)) → (∃ d2, Dn W y m d2 (v.natAbs / u.natAbs.gcd v.natAbs)) → Calls Tryz.prog 41 #[.agg #[.bool r, .slice z k cap, .slice y m e]] W fun en w' => ∃ z k' c' f z2 k2 c2 f2, en = .returned (.agg #[.bool r, .slice z k' c', .slice z2 k2 c2]) ∧ Below W.heap.size W w' ∧ Hid (k' ≤ k ∧ k2 ≤ m ∧ Wn w' false z k' c' f ((u.natAbs / u.natAbs.gcd v.natAbs : Nat) : Int) ∧ Wn w' false z2 k2 c2 f2 ((v.natAbs / u.natAbs.gcd v.natAbs : Nat) : Int) ∧ Tg w' z ∧ Tg w' z2)) := fun W r z k cap y m e hk hm ⟨_, h1⟩ ⟨_, h2⟩ => qTo_c h1 h2 (by omega) (by omega)
  go_wp2_with fail
  go_region_held3 (fun w' => w'.cell? ⟨w.heap.size, 0, none⟩ = some (.bool sa) ∧ w'.cell? ⟨w.heap.size, 1, none⟩ = some (.slice xa na ca) ∧ w'.cell? ⟨w.heap.size + 1, 0, none⟩ = some (.bool sb) ∧ w'.cell? ⟨w.heap.size + 1, 1, none⟩ = some (.slice xb nb cb) ∧ (w'.cell? ⟨w.heap.size + 1 + 1, 0, none⟩).isSome = true ∧ (w'.cell? ⟨w.heap.size + 1 + 1, 1, none⟩).isSome = true ∧ (w'.cell? ⟨w.heap.size + 1 + 1, 2, none⟩).isSome = true ∧ w'.frozen? ⟨w.heap.size + 1 + 1, 0, none⟩ = false ∧ w'.frozen? ⟨w.heap.size + 1 + 1, 1, none⟩ = false ∧ w'.frozen? ⟨w.heap.size + 1 + 1, 2, none⟩ = false)
    (refine ⟨?_, ?_, ?_, ?_, ?_, ?_, ?_, ?_, ?_, ?_⟩ <;> repeat (with_reducible first | assumption | exact zf _ | exact kI0 z0 | exact kI0 z1 | exact kI0 z2 | exact tf _ | exact kI0 t0 | exact kI0 t1 | exact kI0 t2 | exact uf _ | exact kI0 u0 | exact kI0 u1 | exact kI0 u2 | exact vf _ | exact kI0 v0 | exact kI0 v1 | exact kI0 v2 | exact sf _ | exact kI0 s0 | exact kI0 s1 | exact kI0 s2 | exact rf _ | exact kI0 r0 | exact kI0 r1 | exact kI0 r2 | refine kCd ?_ | refine kId ?_ | refine kFd ?_ | refine kCs (by simp only [ne_eq]; omega) ?_ | refine kIs ?_ | refine kFs ?_ | refine kCb (by assumption) ?_ | refine kIb (by assumption) ?_))
    (first
      | (go_at_call 62; with_reducible refine (C1.out _ (by repeat (with_reducible first | assumption | exact Below.refl _ _ | refine Below.drew ?_ | refine kBa ?_ | refine kBb (by assumption) ?_))).mono ?_; rintro e w5 ⟨zp, kp, cp, rfl, hb5, HP⟩; have hkp : kp ≤ 2 := (by have := HP.out.1; omega); have TU : Ob w5 (w.heap.size + 1 + 1) := (by repeat (with_reducible first | exact OB | exact hO2 | exact TU | exact TV | exact TW | exact TX | exact TY | refine Ob.drew ?_ | refine kOb (by assumption) ?_)); obtain ⟨_, t0, t1, t2, tf⟩ := id TU)
      | (go_at_call 69; with_reducible refine (C3.out _ zp kp cp hkp).mono ?_; rintro e w6 ⟨r, rfl, hb6, HR⟩; have TV : Ob w6 (w.heap.size + 1 + 1) := (by repeat (with_reducible first | exact OB | exact hO2 | exact TU | exact TV | exact TW | exact TX | exact TY | refine Ob.drew ?_ | refine kOb (by assumption) ?_)); obtain ⟨_, u0, u1, u2, uf⟩ := id TV)
      | (go_at_call 62; with_reducible refine (C2.out _ (by repeat (with_reducible first | assumption | exact Below.refl _ _ | refine Below.drew ?_ | refine kBa ?_ | refine kBb (by assumption) ?_))).mono ?_; rintro e w7 ⟨zq, kq, cq, rfl, hb7, HQ⟩; have hkq : kq ≤ 2 := (by have := HQ.out.1; omega); have TW : Ob w7 (w.heap.size + 1 + 1) := (by repeat (with_reducible first | exact OB | exact hO2 | exact TU | exact TV | exact TW | exact TX | exact TY | refine Ob.drew ?_ | refine kOb (by assumption) ?_)); obtain ⟨_, v0, v1, v2, vf⟩ := id TW)
      | (go_at_call 73; with_reducible refine (C4.out _ r zp kp cp zq kq cq hkp hkq ((HP.out.2.below hb6).below hb7) HQ.out.2).mono ?_; rintro e w8 ⟨r', zr, kr, cr, zs, ks, cs, rfl, hb8, HM⟩; have TX : Ob w8 (w.heap.size + 1 + 1) := (by repeat (with_reducible first | exact OB | exact hO2 | exact TU | exact TV | exact TW | exact TX | exact TY | refine Ob.drew ?_ | refine kOb (by assumption) ?_)); obtain ⟨_, s0, s1, s2, sf⟩ := id TX)
      | (go_at_call 41; with_reducible refine (C5.out _ r' zr kr cr zs ks cs HM.out.1 HM.out.2.1 HM.out.2.2.2.1 HM.out.2.2.2.2).mono ?_; rintro e w9 ⟨zn, kn, cn, fn, zd, kd, cd, fd, rfl, hb9, HT⟩; have TY : Ob w9 (w.heap.size + 1 + 1) := (by repeat (with_reducible first | exact OB | exact hO2 | exact TU | exact TV | exact TW | exact TX | exact TY | refine Ob.drew ?_ | refine kOb (by assumption) ?_)); obtain ⟨_, r0, r1, r2, rf⟩ := id TY))
  have hb : Below w2.heap.size w2 w9 := (by repeat (with_reducible first | assumption | exact Below.refl _ _ | refine Below.drew ?_ | refine kBa ?_ | refine kBb (by assumption) ?_))
  have hT := HT.out
  obtain ⟨e1, e2⟩ := make_made HA2.out.sgn HB2.out.sgn hvA
  have hM := HM.out
  have hRR : r' = ((sa != sb) && decide (0 < kn)) := by
    rw [hM.2.2.1, HR.out]
    have e3 : 0 < u.natAbs / u.natAbs.gcd v.natAbs := Nat.div_pos (Nat.gcd_le_left _ (by omega)) (Nat.gcd_pos_of_pos_right _ hvA)
    have k1 : 0 < kn := hT.2.2.1.pos (by omega)
    have k2 : 0 < kr := by omega
    have k3 : 0 < kp := by
      rcases Nat.eq_zero_or_pos kp with h | h
      · have h2 := HP.out.2.val; rw [h] at h2; have : (0 : Int) = u.natAbs := h2; omega
      · exact h
    simp [k1, k2, k3, bne]
  go_wp2
  refine bodyPost_ret (v := .tuple #[.agg #[.bool r', .slice zn kn cn, .slice zd kd cd], .int .i64 0]) (by simp [results, Tryz.results28, go_sem, r0, r1, r2]) rfl ⟨r', zn, kn, cn, fn, zd, kd, cd, fd, rfl, below_st (HW2.out.trans (hb.mono HW2.out.size)) (by omega), ⟨?_, ?_, by omega, by omega⟩, ((hT.2.2.2.2.1.set _ _).set _ _).set _ _, ((hT.2.2.2.2.2.set _ _).set _ _).set _ _⟩
  · rw [e1]; exact TY.wn (hT.2.2.1.resign hRR)
  · rw [e2]; exact TY.wn hT.2.2.2.1
end Go.Proofs.YtndiiknbkjlbiaaGreatDoor
namespace Go.Proofs.YtndiiknbkjlbiaaGreatDoor
open Go.RowKit

theorem Wn.len1 {w s x n c f v} (h : Wn w s x n c f v) (hv : v.natAbs < 18446744073709551616) : n ≤ 1 := by
  rcases Nat.lt_or_ge 1 n with h2 | h2
  · have h1 := vf_form_ge h.lm h.fm (by omega)
    have h3 := pw_mono (show 1 ≤ n - 1 by omega)
    have h4 : pw 1 = 18446744073709551616 := by simp [pw]
    have h5 := h.mag.nv
    omega
  · omega
set_option maxRecDepth 100000 in
set_option maxHeartbeats 4000000 in
theorem num_c (w : World) (n d : Int) (hn : -9223372036854775808 ≤ n ∧ n ≤ 9223372036854775807) (hd : -9223372036854775808 ≤ d ∧ d ≤ 9223372036854775807) (h1 : n ≠ 0) (h2 : d ≠ 0) :
    Calls Tryz.prog 36 #[.int .i64 n, .int .i64 d] w fun e w' => RatTga 2 w w' e ((n : Rat) / (d : Rat)) := by
  have h3 := ob_new w 24
  have h4 := below_alloc (Below.refl w.heap.size w) (.cells #[.bool false, .slice none 0 0, .slice none 0 0] 24)
  go_enter Tryz.func36, Tryz.ntmps36
  go_wp2_with fail
  generalize w.alloc (.cells #[.bool false, .slice none 0 0, .slice none 0 0] 24) = w1 at *
  have OB1 := hid h3; have HW1 := hid h4
  clear h3 h4
  refine (docOf_c n _ hn.1 hn.2).mono ?_
  rintro e w2 ⟨s2, x2, k2, c2, f2, rfl, hr2, hv2⟩
  have hb := hr2.res.bel
  have WN2 := hid (hr2.wn hv2)
  have hk2 := (hr2.wn hv2).len1 (by omega)
  clear hr2 hv2
  have OB2 := hid (OB1.out.below hb); have HW2 := hid (HW1.out.trans (hb.mono HW1.out.size))
  clear OB1 HW1 hb
  go_wp2_with fail
  refine (docOf_c d _ hd.1 hd.2).mono ?_
  rintro e w3 ⟨s3, x3, k3, c3, f3, rfl, hr3, hv3⟩
  have hb := hr3.res.bel
  have WD3 := hid (hr3.wn hv3)
  have hk3 := (hr3.wn hv3).len1 (by omega)
  clear hr3 hv3
  have OB3 := hid (OB2.out.below hb); have WN3 := hid (WN2.out.below hb); have HW3 := hid (HW2.out.trans (hb.mono HW2.out.size))
  clear OB2 WN2 HW2 hb
  go_wp2_with fail
  refine (docMake_c WN3.out WD3.out h1 h2 hk2 hk3).mono ?_
  rintro e w4 ⟨rs, zn, kn, cn, fn, zd, kd, cd, fd, rfl, hb, hr, ht1, ht2⟩
  have HR := hid hr; have G1 := hid ht1; have G2 := hid ht2
  clear hr ht1 ht2
  have OB4 := hid (OB3.out.below hb); have HW4 := hid (HW3.out.trans (hb.mono HW3.out.size))
  clear OB3 HW3 hb
  obtain ⟨hz, z0, z1, z2, zf⟩ := OB4.out
  go_wp2
  exact bodyPost_ret (v := .agg #[.bool rs, .slice zn kn cn, .slice zd kd cd]) (by simp [results, Tryz.results36, go_sem, z0, z1, z2, hz]) rfl ⟨rs, zn, kn, cn, fn, zd, kd, cd, fd, rfl, below_alloc (below_st HW4.out (Nat.le_refl _)) _, (OB4.out.rn HR.out).alloc _, (((G1.out.set _ _).set _ _).set _ _).alloc _, (((G2.out.set _ _).set _ _).set _ _).alloc _⟩

set_option maxRecDepth 100000 in
set_option maxHeartbeats 4000000 in
theorem rMake_n {w : World} {sa : Bool} {xa : Option Addr} {na ca : Nat} {fa : Nat → Int} {sb : Bool} {xb : Option Addr} {nb cb : Nat} {fb : Nat → Int} {u v : Int} (ha : Wn w sa xa na ca fa u) (hb : Wn w sb xb nb cb fb v) {L : Nat} (hv : v ≠ 0) (hna : na ≤ L) (hnbL : nb ≤ L) (hL : L ≤ 1000) :
    Calls Tryz.prog 26 #[.agg #[.bool sa, .slice xa na ca], .agg #[.bool sb, .slice xb nb cb]] w fun e w' => RatTup L w w' e ((u : Rat) / (v : Rat)) := by
  have HA0 := hid ha; have HB0 := hid hb
  have hvA : 0 < v.natAbs := by omega
  have hnb : 0 < nb := hb.mag.pos (by omega)
  clear ha hb
  have hn0 : ((nb : Int) == 0) = false := by simp; omega
  go_enter Tryz.func26, Tryz.ntmps26
  go_wp2_with fail
  refine (wForm_c sa xa na ca fa _ (by omega) (((HA0.out.alloc _).alloc _).alloc _).rd).mono ?_
  rintro e w1 ⟨rfl, hb⟩
  rw [HA0.out.wf]
  obtain ⟨ba, bb, ob, hw⟩ := mk_boxes hb
  have BA1 := hid ba; have BB1 := hid bb; have OB1 := hid ob; have HW1 := hid hw; have HA1 := hid (HA0.out.below hw); have HB1 := hid (HB0.out.below hw)
  clear ba bb ob hw hb HA0 HB0
  obtain ⟨zb, b0, b1⟩ := BB1.out
  go_wp2_with fail
  refine (wForm_c sb xb nb cb fb _ (by omega) HB1.out.rd).mono ?_
  rintro e w2 ⟨rfl, hb⟩
  rw [HB1.out.wf]
  clear zb b0 b1
  have BA2 := hid (BA1.out.below hb); have BB2 := hid (BB1.out.below hb); have OB2 := hid (OB1.out.below hb); have HA2 := hid (HA1.out.below hb); have HB2 := hid (HB1.out.below hb); have HW2 := hid (HW1.out.trans (hb.mono HW1.out.size))
  clear BA1 BB1 OB1 HA1 HB1 HW1 hb
  obtain ⟨za, a0, a1⟩ := BA2.out
  obtain ⟨zb, b0, b1⟩ := BB2.out
  obtain ⟨hz, z0, z1, z2, zf⟩ := OB2.out
  go_wp2_with fail
  refine (ratGcd_c HA2.out.mag HB2.out.mag (by omega) (by omega)).mono ?_
  rintro e w3 ⟨zg, kg, cg, fg, rfl, hb, hg⟩
  have WG3 := hid hg
  have hG0 : 0 < u.natAbs.gcd v.natAbs := Nat.gcd_pos_of_pos_right _ hvA
  have hkg : kg ≤ L := Nat.le_trans (hg.len_le HB2.out.mag (Nat.gcd_le_right _ hvA)) (by omega)
  clear hg za a0 a1 zb b0 b1 hz z0 z1 z2 zf
  have BA3 := hid (BA2.out.below hb); have BB3 := hid (BB2.out.below hb); have OB3 := hid (OB2.out.below hb); have HA3 := hid (HA2.out.below hb); have HB3 := hid (HB2.out.below hb); have HW3 := hid (HW2.out.trans (hb.mono HW2.out.size))
  clear BA2 BB2 OB2 HA2 HB2 HW2 hb
  obtain ⟨za, a0, a1⟩ := BA3.out
  obtain ⟨zb, b0, b1⟩ := BB3.out
  go_wp2_with fail
  refine (div_n HA3.out.mag WG3.out hG0 (by omega) (by omega)).mono ?_
  rintro e w4 ⟨zn, kn, cn, fn, zx, kx, cx, rfl, hb, hkn, hn⟩
  have WN4 := hid hn
  clear hn za a0 a1 zb b0 b1
  have BA4 := hid (BA3.out.below hb); have BB4 := hid (BB3.out.below hb); have OB4 := hid (OB3.out.below hb); have HA4 := hid (HA3.out.below hb); have HB4 := hid (HB3.out.below hb); have WG4 := hid (WG3.out.below hb); have HW4 := hid (HW3.out.trans (hb.mono HW3.out.size))
  clear BA3 BB3 OB3 HA3 HB3 WG3 HW3 hb
  obtain ⟨za, a0, a1⟩ := BA4.out
  obtain ⟨zb, b0, b1⟩ := BB4.out
  go_wp2_with fail
  refine (div_n HB4.out.mag WG4.out hG0 (by omega) (by omega)).mono ?_
  rintro e w5 ⟨zd, kd, cd, fd, zy, ky, cy, rfl, hb, hkd, hn⟩
  have WD5 := hid hn
  clear hn za a0 a1 zb b0 b1
  have BA5 := hid (BA4.out.below hb); have BB5 := hid (BB4.out.below hb); have OB5 := hid (OB4.out.below hb); have HA5 := hid (HA4.out.below hb); have HB5 := hid (HB4.out.below hb); have WN5 := hid (WN4.out.below hb); have HW5 := hid (HW4.out.trans (hb.mono HW4.out.size))
  clear BA4 BB4 OB4 HA4 HB4 WN4 HW4 hb
  obtain ⟨za, a0, a1⟩ := BA5.out
  obtain ⟨zb, b0, b1⟩ := BB5.out
  obtain ⟨e1, e2⟩ := make_made HA5.out.sgn HB5.out.sgn hvA
  have E1 := hid e1; have E2 := hid e2
  clear e1 e2
  go_wp2_with fail
  refine (rsigned_c _ zn zd kn cn kd cd _ (by omega)).mono ?_
  rintro e w6 ⟨rs, rfl, HRS, hb⟩
  clear za a0 a1 zb b0 b1
  have OB6 := hid (OB5.out.below hb); have WN6 := hid (WN5.out.below hb); have WD6 := hid (WD5.out.below hb); have HW6 := hid (HW5.out.trans (hb.mono HW5.out.size))
  clear OB5 WN5 WD5 HW5 hb
  obtain ⟨hz, z0, z1, z2, zf⟩ := OB6.out
  go_wp2
  refine bodyPost_ret (v := .tuple #[.agg #[.bool rs, .slice zn kn cn, .slice zd kd cd], .int .i64 0]) (by simp [results, Tryz.results26, go_sem, z0, z1, z2]) rfl ⟨rs, zn, kn, cn, fn, zd, kd, cd, fd, rfl, below_st HW6.out (by omega), ⟨?_, ?_, by omega, by omega⟩⟩
  · rw [E1.out]; exact OB6.out.wn (WN6.out.resign HRS.out)
  · rw [E2.out]; exact OB6.out.wn WD6.out
end Go.Proofs.YtndiiknbkjlbiaaGreatDoor
namespace Go.Proofs.YtndiiknbkjlbiaaGreatDoor
open Go.RowKit

theorem kM0 {w : World} {g : Nat} {x y : Value} {t : TypeId} (h : g = w.heap.size) : (w.alloc (.cells #[x, y] t)).cell? ⟨g, 0, none⟩ = some x := by subst h; exact kN0
theorem kM1 {w : World} {g : Nat} {x y : Value} {t : TypeId} (h : g = w.heap.size) : (w.alloc (.cells #[x, y] t)).cell? ⟨g, 1, none⟩ = some y := by subst h; exact kN1
theorem kCe {w : World} {a : Addr} {v : Value} (h : (w.cell? a).isSome = true) : (w.setCell a v).cell? a = some v := World.cell?_setCell_same' w a v h
theorem kCo {w : World} {b i j : Nat} {u v : Value} (hij : i ≠ j) (h : w.cell? ⟨b, j, none⟩ = some u) : (w.setCell ⟨b, i, none⟩ v).cell? ⟨b, j, none⟩ = some u := by
  rw [World.cell?_setCell_other _ _ _ _ (fun he => hij (congrArg Addr.off he))]; exact h
/-- A new box for an answer of two cells. -/
structure Ob2 (w : World) (B : Nat) : Prop where
  z : B < w.heap.size
  z0 : w.cell? ⟨B, 0, none⟩ = some (.bool false)
  z1 : w.cell? ⟨B, 1, none⟩ = some (.slice none 0 0)
  zf : ∀ o, w.frozen? ⟨B, o, none⟩ = false
theorem Ob2.below {w w' B} (h : Ob2 w B) (hb : Below w.heap.size w w') : Ob2 w' B := by
  obtain ⟨h1, h2⟩ := bcell hb
  exact ⟨Nat.lt_of_lt_of_le h.z hb.size, kCb hb h.z0, kCb hb h.z1, fun o => (h2 _ _ h.z).trans (h.zf o)⟩
theorem ob2_new (w : World) (t : TypeId) : Ob2 (w.alloc (.cells #[.bool false, .slice none 0 0] t)) w.heap.size := by
  refine ⟨by simp, by simp [go_sem], by simp [go_sem], fun o => ?_⟩
  have e := heap_alloc_new w (.cells #[.bool false, .slice none 0 0] t)
  simp only [World.frozen?, e]; simp
theorem Ob2.wn {w B u0 u1 s x n c f v} (h : Ob2 w B) (hx : Wn w s x n c f v) : Wn ((w.setCell ⟨B, 0, none⟩ u0).setCell ⟨B, 1, none⟩ u1) s x n c f v :=
  ⟨rd_setne (cell_off (by decide) h.z1) (fun i h => by cases h) (rd_setne h.z0 (fun i h => by cases h) hx.rd), hx.lm, hx.wf, hx.cap, hx.nil, hx.val⟩
theorem below_st2 {w0 w : World} {B : Nat} {u0 u1 : Value} (hw : Below w0.heap.size w0 w) (hB : w0.heap.size ≤ B) :
    Below w0.heap.size w0 ((w.setCell ⟨B, 0, none⟩ u0).setCell ⟨B, 1, none⟩ u1) :=
  below_turned hw hw.size (((Turned.refl w0.heap.size (B + 1) w).set (x := ⟨B, 0, none⟩) hB (by simp) _).set (x := ⟨B, 1, none⟩) hB (by simp) _) (Nat.le_refl _)
theorem flr_ediv {a b q r : Int} (hb : 0 < b) (h : Flr a b q r) : q = a / b := by
  obtain ⟨h1, h2⟩ := h
  have h3 : 0 ≤ r ∧ r < b := by omega
  have h4 : a / b = q := by
    rw [h1, Int.add_comm, Int.add_mul_ediv_right _ _ (by omega), Int.ediv_eq_zero_of_lt h3.1 h3.2]; omega
  exact h4.symm
/-- What stands behind the quotient. -/
structure FlAt (L : Nat) (w1 wx : World) (b4 : Nat) (s : Bool) (z : Option Addr) (k c : Nat) (v : Int) : Prop where
  bx : Bx wx b4 s z k c
  bel : Below w1.heap.size w1 wx
  wn : ∃ f, Wn wx s z k c f v
  le : k ≤ L + 2
theorem fl_of {L : Nat} {w1 wx W5 w5 : World} {b4 : Nat} {r1 : Bool} {p1 : Option Addr} {k1 c1 n : Nat} {q : Nat → Int} {v : Int} (hn : n ≤ L) (hW : Below w1.heap.size w1 W5) (hD : WRes (n + 2) W5 w5 r1 p1 k1 c1 q ∧ wv r1 q k1 = v) (hT : Turned w1.heap.size W5.heap.size w5 wx) (hb : Bx wx b4 r1 p1 k1 c1) : FlAt L w1 wx b4 r1 p1 k1 c1 v := by
  have hQ := hD.1.res.turned hW hT
  have := hQ.le
  exact ⟨hb, hQ.bel, ⟨q, hQ.rd, hQ.lm, hD.1.wfB, hQ.ncap, hQ.nil', hD.2⟩, by omega⟩

set_option maxRecDepth 100000 in
set_option maxHeartbeats 8000000 in
theorem rFloor_n {L : Nat} {w : World} {sa : Bool} {xa : Option Addr} {na ca : Nat} {fa : Nat → Int} {ya : Option Addr} {ma da : Nat} {ga : Nat → Int} {a : Rat} (ha : Rn L w sa xa na ca fa ya ma da ga a) (hL : L ≤ 1000) :
    Calls Tryz.prog 23 #[.agg #[.bool sa, .slice xa na ca, .slice ya ma da]] w fun e w' => ∃ s z k c f, e = .returned (.tuple #[.agg #[.bool s, .slice z k c], .int .i64 0]) ∧ Below w.heap.size w w' ∧ k ≤ L + 2 ∧ Wn w' s z k c f a.floor := by
  have HA0 := hid ha
  have b1 := ha.ln; have b2 := ha.ld
  clear ha
  go_enter Tryz.func23, Tryz.ntmps23
  go_wp2_with fail
  refine (rForm_n ((HA0.out.alloc _).alloc _) (by omega)).mono ?_
  rintro e w1 ⟨rfl, hbel⟩
  have hbx := ((bx3_at w _ _ _ _).alloc _).below hbel
  have hob := (ob2_new (w.alloc _) _).below hbel
  rw [size_alloc1] at hob
  have HW1 : Hid (Below w.heap.size w w1) := (below_alloc (below_alloc (Below.refl w.heap.size w) _) _).trans (hbel.mono (by simp; omega))
  have HA1 := hid (HA0.out.below HW1.out); have OB1 := hid hob
  clear hbel hob HA0
  obtain ⟨za, x0, x1, x2⟩ := hbx
  have C1 : Hid (∀ W, Below w1.heap.size w1 W → Calls Tryz.prog 56 #[.agg #[.bool sa, .slice xa na ca, .slice ya ma da]] W fun e w' => e = .returned (.agg #[.bool sa, .slice xa na ca]) ∧ Below W.heap.size W w') := fun W _ => numer_c sa xa ya na ca ma da W
  have C2 : Hid (∀ W, Below w1.heap.size w1 W → Calls Tryz.prog 64 #[.agg #[.bool sa, .slice xa na ca, .slice ya ma da]] W fun e w' => e = .returned (.agg #[.bool false, .slice ya ma da]) ∧ Below W.heap.size W w') := fun W _ => denom_c sa xa ya na ca ma da W
  have C3 : Hid (∀ W, Below w1.heap.size w1 W → Calls Tryz.prog 67 #[.agg #[.bool sa, .slice xa na ca], .agg #[.bool false, .slice ya ma da]] W fun e w' => ∃ r1 p1 k1 c1 q r2 p2 k2 c2, e = .returned (.tuple #[.agg #[.bool r1, .slice p1 k1 c1], .agg #[.bool r2, .slice p2 k2 c2], .int .i64 0]) ∧ Below W.heap.size W w' ∧ Hid (WRes (na + 2) W w' r1 p1 k1 c1 q ∧ wv r1 q k1 = a.floor)) := fun W hW => by
    have hh := HA1.out.below hW
    refine (wDivide_c sa false xa ya na ma ca da fa ga W (by omega) (by omega) hh.num.rd hh.den.rd hh.num.lm hh.den.lm).mono ?_
    rintro e w' ⟨r1, p1, k1, c1, q, r2, p2, k2, c2, r, er, rfl, h1, h2, h3⟩
    have hd := a.den_pos
    have hm0 : 0 < ma := hh.den.pos (by omega)
    rcases h3 with ⟨_, _, rfl, h4⟩ | ⟨_, h4, _⟩ | ⟨h4, _⟩
    · refine ⟨r1, p1, k1, c1, q, r2, p2, k2, c2, rfl, h1.res.bel, h1, ?_⟩
      rw [hh.num.val, hh.den.val] at h4
      rw [flr_ediv (by omega) h4, rfloor]
    · omega
    · exact absurd ⟨hh.num.wf, hh.den.wf⟩ h4
  go_upto_region 3 with fail
  go_cut [4, 5, 6] from 11 to 19 (fun u v t wx => ∃ b4 b5 s z k c, u = .pointer (some ⟨b4, 0, none⟩) ∧ v = .pointer (some ⟨b5, 0, none⟩) ∧ t = .int .i64 0 ∧ FlAt L w1 wx b4 s z k c a.floor)
  case first =>
    go_region_held3 (fun w' => w'.cell? ⟨w.heap.size, 0, none⟩ = some (.bool sa) ∧ w'.cell? ⟨w.heap.size, 1, none⟩ = some (.slice xa na ca) ∧ w'.cell? ⟨w.heap.size, 2, none⟩ = some (.slice ya ma da))
      (refine ⟨?_, ?_, ?_⟩ <;> repeat (with_reducible first | assumption | refine kCd ?_ | refine kCa ?_ | refine kCs (by simp only [ne_eq]; omega) ?_ | refine kCb (by assumption) ?_))
      (first
        | (go_at_call 56; with_reducible refine (C1.out _ (by repeat (with_reducible first | assumption | exact Below.refl _ _ | refine Below.drew ?_ | refine kBa ?_ | refine kBb (by assumption) ?_))).mono ?_; rintro e w3 ⟨rfl, hb3⟩; have hza := hb3.size; (try simp at hza); obtain ⟨hc3, hf3⟩ := bcell hb3; (try have q100 : w1.heap.size < w3.heap.size := by omega); (try have q101 : w1.heap.size + 1 < w3.heap.size := by omega))
        | (go_at_call 64; with_reducible refine (C2.out _ (by repeat (with_reducible first | assumption | exact Below.refl _ _ | refine Below.drew ?_ | refine kBa ?_ | refine kBb (by assumption) ?_))).mono ?_; rintro e w4 ⟨rfl, hb4⟩; have hzb := hb4.size; (try simp at hzb); obtain ⟨hc4, hf4⟩ := bcell hb4; (try have q100 : w1.heap.size < w4.heap.size := by omega); (try have q101 : w1.heap.size + 1 < w4.heap.size := by omega); (try have q102 : w3.heap.size < w4.heap.size := by omega); (try have q103 : w3.heap.size + 1 < w4.heap.size := by omega))
        | (go_at_call 67; with_reducible refine (C3.out _ (by repeat (with_reducible first | assumption | exact Below.refl _ _ | refine Below.drew ?_ | refine kBa ?_ | refine kBb (by assumption) ?_))).mono ?_; rintro e w5 ⟨r1, p1, k1, c1, q, r2, p2, k2, c2, rfl, hb5, HD⟩; have hzc := hb5.size; (try simp at hzc); obtain ⟨hc5, hf5⟩ := bcell hb5; (try have q100 : w1.heap.size < w5.heap.size := by omega); (try have q101 : w1.heap.size + 1 < w5.heap.size := by omega); (try have q102 : w3.heap.size < w5.heap.size := by omega); (try have q103 : w3.heap.size + 1 < w5.heap.size := by omega); (try have q104 : w4.heap.size < w5.heap.size := by omega); (try have q105 : w4.heap.size + 1 < w5.heap.size := by omega)))
    all_goals
      go_wp2_with fail
      go_meet
      refine ⟨_, _, r1, p1, k1, c1, rfl, rfl, rfl, fl_of b1 (by repeat (with_reducible first | assumption | exact Below.refl _ _ | refine Below.drew ?_ | refine kBa ?_ | refine kBb (by assumption) ?_)) HD.out (by repeat (with_reducible first | exact Turned.refl _ _ _ | refine Turned.drew ?_ | refine Turned.alloc ?_ _ | refine Turned.set ?_ (by first | omega | (simp; done) | (simp; omega)) (by first | omega | (simp; done) | (simp; omega)) _)) ⟨(by first | omega | (simp; done) | (simp; omega)), (by repeat (with_reducible first | assumption | exact kN0 | exact kN1 | (refine kM0 ?_; (simp <;> fail)) | (refine kM1 ?_; (simp <;> fail)) | exact kI0 kN0 | exact kI0 kN1 | (refine kI0 (kM0 ?_); (simp <;> fail)) | (refine kI0 (kM1 ?_); (simp <;> fail)) | refine kCd ?_ | refine kCe ?_ | refine kCo (by decide) ?_ | refine kCs (by simp only [ne_eq]; omega) ?_ | refine kCa ?_ | refine kCb (by assumption) ?_ | refine kId ?_ | refine kIs ?_ | refine kIa ?_ | refine kIb (by assumption) ?_)), (by repeat (with_reducible first | assumption | exact kN0 | exact kN1 | (refine kM0 ?_; (simp <;> fail)) | (refine kM1 ?_; (simp <;> fail)) | exact kI0 kN0 | exact kI0 kN1 | (refine kI0 (kM0 ?_); (simp <;> fail)) | (refine kI0 (kM1 ?_); (simp <;> fail)) | refine kCd ?_ | refine kCe ?_ | refine kCo (by decide) ?_ | refine kCs (by simp only [ne_eq]; omega) ?_ | refine kCa ?_ | refine kCb (by assumption) ?_ | refine kId ?_ | refine kIs ?_ | refine kIa ?_ | refine kIb (by assumption) ?_))⟩⟩
  case rest =>
    obtain ⟨b4, b5, s, z, k, c, rfl, rfl, rfl, hbx, hbel, ⟨f, hwn⟩, hle⟩ := hcut
    have OB2' := hid (OB1.out.below hbel); have HW2 := hid (HW1.out.trans (hbel.mono HW1.out.size)); have WN := hid hwn
    clear hbel hwn x0 x1 x2 za C1 C2 C3 OB1 HW1
    obtain ⟨zb, y0, y1⟩ := hbx
    obtain ⟨hz, z0, z1, zf⟩ := OB2'.out
    go_wp2
    exact bodyPost_ret (v := .tuple #[.agg #[.bool s, .slice z k c], .int .i64 0]) (by simp [results, Tryz.results23, go_sem, z0, z1]) rfl ⟨s, z, k, c, f, rfl, below_st2 HW2.out (by omega), hle, OB2'.out.wn WN.out⟩
end Go.Proofs.YtndiiknbkjlbiaaGreatDoor

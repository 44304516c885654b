/-
  The walk of package rat's mul. Walks of package rat's calls Form, Add, Sub, Mul, Quo on numbers in form; the document's Same and Light. How an argument that is a rational number is opened. How an argument that is a bound is opened. The walk of the document's reference for nat: Mul. Digits to the base 2^32 that can be read, with their number; the reference's Add, Sub, Mul on them. The walk of the document's reference for nat: bit, Bits, DivMod. Walks of nat.Shl and of the document's reference: Shl, DocShl. The walk of the document's reference for nat: half, Gcd. The walk of the document's reference for nat: Gcd. Walks of the document's reference for nat: DocMul, DocDivMod, DocGcd. Walks of the document's reference for whole: Form, From, Text, Read, DocText, DocRead.
-/
import Derived.Test.YtbindadjepfkcaaGreatDoorZ6
import Derived.Test.YtbindadjepfkcaaGreatDoorZ2
import Derived.Test.YtbindadjepfkcaaGreatDoorZ4
import Derived.Test.YtbindadjepfkcaaGreatDoorZ5
import Derived.Test.YtbindadjepfkcaaGreatDoorZ3
namespace Go.Proofs.YtbindadjepfkcaaGreatDoor
open Go.RowKit

theorem mul_made {a b : Rat} {s t : Bool} (ha : a.num = sg s a.num.natAbs) (hb : b.num = sg t b.num.natAbs) :
    sg (s != t) (a.num.natAbs / a.num.natAbs.gcd b.den * (b.num.natAbs / b.num.natAbs.gcd a.den)) = (a * b).num ∧ a.den / b.num.natAbs.gcd a.den * (b.den / a.num.natAbs.gcd b.den) = (a * b).den := by
  have := rmul (a := a) (b := b) (s := s) (t := t) (G := a.num.natAbs.gcd b.den) (H := b.num.natAbs.gcd a.den) (NA := a.num.natAbs / a.num.natAbs.gcd b.den) (NB := b.num.natAbs / b.num.natAbs.gcd a.den) (DA := a.den / b.num.natAbs.gcd a.den) (DB := b.den / a.num.natAbs.gcd b.den)
    (by rw [Nat.div_mul_cancel (Nat.gcd_dvd_left _ _)]; exact ha) (by rw [Nat.div_mul_cancel (Nat.gcd_dvd_left _ _)]; exact hb) rfl rfl (Nat.div_mul_cancel (Nat.gcd_dvd_right _ _)) (Nat.div_mul_cancel (Nat.gcd_dvd_right _ _))
  exact ⟨this.1.symm, this.2.symm⟩

set_option maxRecDepth 100000 in
set_option maxHeartbeats 4000000 in
theorem ratmul_c {L : Nat} {w : World} {sa : Bool} {xa : Option Addr} {na ca : Nat} {fa : Nat → Int} {ya : Option Addr} {ma da : Nat} {ga : Nat → Int} {a : Rat} {sb : Bool} {xb : Option Addr} {nb cb : Nat} {fb : Nat → Int} {yb : Option Addr} {mb db : Nat} {gb : Nat → Int} {b : Rat} (ha : Rn L w sa xa na ca fa ya ma da ga a) (hb : Rn L w sb xb nb cb fb yb mb db gb b) (hL : L ≤ 1000) :
    Calls Tryz.prog 94 #[.agg #[.bool sa, .slice xa na ca, .slice ya ma da], .agg #[.bool sb, .slice xb nb cb, .slice yb mb db]] w fun e w' => RatAns (2 * L + 1) w w' e (a * b) := by
  have b1 := ha.ln; have b2 := ha.ld; have b3 := hb.ln; have b4 := hb.ld
  have hbel := Below.refl (((w.alloc (.cells #[.bool sa, .slice xa na ca, .slice ya ma da] 24)).alloc (.cells #[.bool sb, .slice xb nb cb, .slice yb mb db] 24)).alloc (.cells #[.bool false, .slice none 0 0, .slice none 0 0] 24)).heap.size (((w.alloc (.cells #[.bool sa, .slice xa na ca, .slice ya ma da] 24)).alloc (.cells #[.bool sb, .slice xb nb cb, .slice yb mb db] 24)).alloc (.cells #[.bool false, .slice none 0 0, .slice none 0 0] 24))
  obtain ⟨t1, hw⟩ := three_new hbel
  have h1 := (((ha.alloc (.cells #[.bool sa, .slice xa na ca, .slice ya ma da] 24)).alloc (.cells #[.bool sb, .slice xb nb cb, .slice yb mb db] 24)).alloc (.cells #[.bool false, .slice none 0 0, .slice none 0 0] 24))
  have h2 := (((hb.alloc (.cells #[.bool sa, .slice xa na ca, .slice ya ma da] 24)).alloc (.cells #[.bool sb, .slice xb nb cb, .slice yb mb db] 24)).alloc (.cells #[.bool false, .slice none 0 0, .slice none 0 0] 24))
  clear hbel ha hb
  go_enter Tryz.func94, Tryz.ntmps94
  go_wp2_with fail
  generalize ((w.alloc (.cells #[.bool sa, .slice xa na ca, .slice ya ma da] 24)).alloc (.cells #[.bool sb, .slice xb nb cb, .slice yb mb db] 24)).alloc (.cells #[.bool false, .slice none 0 0, .slice none 0 0] 24) = w1 at *
  have HA1 := hid h1; have HB1 := hid h2; have T1 := hid t1; have HW1 := hid hw
  obtain ⟨hz, x0, x1, x2, y0, y1, y2, z0, z1, z2, zf⟩ := t1
  have hza : w.heap.size < w1.heap.size := by omega
  have hzb : w.heap.size + 1 < w1.heap.size := by omega
  clear h1 h2 hw
  have hG0 : 0 < a.num.natAbs.gcd b.den := Nat.gcd_pos_of_pos_right _ b.den_pos
  have hH0 : 0 < b.num.natAbs.gcd a.den := Nat.gcd_pos_of_pos_right _ a.den_pos
  have C1 : Hid (∀ W, Below w1.heap.size w1 W → Calls Tryz.prog 86 #[.slice xa na ca, .slice yb mb db] W fun e w' => ∃ z k e' h, e = .returned (.slice z k e') ∧ Below W.heap.size W w' ∧ Hid (k ≤ L ∧ Wn w' false z k e' h (a.num.natAbs.gcd b.den : Nat))) := fun W hW => (ratGcd_c (HA1.out.num.mag.below hW) (HB1.out.den.below hW) (by omega) (by omega)).mono (fun e w' ⟨z, k, e', h, h1, h2, h3⟩ => ⟨z, k, e', h, h1, h2, Nat.le_trans (h3.len_le ((HB1.out.den.below hW).below h2) (Nat.gcd_le_right _ b.den_pos)) (by omega), h3⟩)
  have C2 : Hid (∀ W, Below w1.heap.size w1 W → Calls Tryz.prog 86 #[.slice xb nb cb, .slice ya ma da] W fun e w' => ∃ z k e' h, e = .returned (.slice z k e') ∧ Below W.heap.size W w' ∧ Hid (k ≤ L ∧ Wn w' false z k e' h (b.num.natAbs.gcd a.den : Nat))) := fun W hW => (ratGcd_c (HB1.out.num.mag.below hW) (HA1.out.den.below hW) (by omega) (by omega)).mono (fun e w' ⟨z, k, e', h, h1, h2, h3⟩ => ⟨z, k, e', h, h1, h2, Nat.le_trans (h3.len_le ((HA1.out.den.below hW).below h2) (Nat.gcd_le_right _ a.den_pos)) (by omega), h3⟩)
  go_region_held3 (fun w' => w'.cell? ⟨w.heap.size, 1, none⟩ = some (.slice xa na ca) ∧ w'.cell? ⟨w.heap.size + 1, 2, none⟩ = some (.slice yb mb db) ∧ w'.cell? ⟨w.heap.size + 1, 1, none⟩ = some (.slice xb nb cb) ∧ w'.cell? ⟨w.heap.size, 2, none⟩ = some (.slice ya ma da))
    (refine ⟨?_, ?_, ?_, ?_⟩ <;> repeat (with_reducible first | assumption | refine kCd ?_ | refine kCa ?_ | refine kCb (by assumption) ?_))
    (first
      | (go_at_call 86; with_reducible refine (C1.out _ (by repeat (with_reducible first | assumption | exact Below.refl _ _ | refine Below.drew ?_ | refine kBa ?_ | refine kBb (by assumption) ?_))).mono ?_; rintro e w2 ⟨zg, kg, cg, fg, rfl, hb2, HG⟩)
      | (go_at_call 86; with_reducible refine (C2.out _ (by repeat (with_reducible first | assumption | exact Below.refl _ _ | refine Below.drew ?_ | refine kBa ?_ | refine kBb (by assumption) ?_))).mono ?_; rintro e w3 ⟨zh, kh, ch, fh, rfl, hb3, HH⟩))
  have WG3 := hid (HG.out.2.below hb3); have WH3 := hid HH.out.2
  have hkg := HG.out.1; have hkh := HH.out.1
  have hb : Below w1.heap.size w1 w3 := (by repeat (with_reducible first | assumption | exact Below.refl _ _ | refine Below.drew ?_ | refine kBa ?_ | refine kBb (by assumption) ?_))
  clear HG HH C1 C2 hb2 hb3
  have HA3 := hid (HA1.out.below hb); have HB3 := hid (HB1.out.below hb); have T3 := hid (T1.out.below hb); have HW3 := hid (HW1.out.trans (hb.mono HW1.out.size))
  clear HA1 HB1 T1 HW1 hb
  clear hza hzb hz x0 x1 x2 y0 y1 y2 z0 z1 z2 zf
  obtain ⟨hz, x0, x1, x2, y0, y1, y2, z0, z1, z2, zf⟩ := T3.out
  have hza : w.heap.size < w3.heap.size := by omega
  have hzb : w.heap.size + 1 < w3.heap.size := by omega
  have C1 : Hid (∀ W, Below w3.heap.size w3 W → Calls Tryz.prog 120 #[.slice xa na ca, .slice zg kg cg] W fun e w' => ∃ z k e' h, e = .returned (.slice z k e') ∧ Below W.heap.size W w' ∧ Hid (k ≤ L ∧ Wn w' false z k e' h (a.num.natAbs / a.num.natAbs.gcd b.den : Nat))) := fun W hW => (over_c (HA3.out.num.mag.below hW) (WG3.out.below hW) hG0 (by omega) (by omega)).mono (fun e w' ⟨z, k, e', h, h1, h2, h3⟩ => ⟨z, k, e', h, h1, h2, by have := h3.out.1; omega, h3.out.2⟩)
  have C2 : Hid (∀ W, Below w3.heap.size w3 W → Calls Tryz.prog 120 #[.slice xb nb cb, .slice zh kh ch] W fun e w' => ∃ z k e' h, e = .returned (.slice z k e') ∧ Below W.heap.size W w' ∧ Hid (k ≤ L ∧ Wn w' false z k e' h (b.num.natAbs / b.num.natAbs.gcd a.den : Nat))) := fun W hW => (over_c (HB3.out.num.mag.below hW) (WH3.out.below hW) hH0 (by omega) (by omega)).mono (fun e w' ⟨z, k, e', h, h1, h2, h3⟩ => ⟨z, k, e', h, h1, h2, by have := h3.out.1; omega, h3.out.2⟩)
  go_wp2_with fail
  go_region_held3 (fun w' => w'.cell? ⟨w.heap.size, 1, none⟩ = some (.slice xa na ca) ∧ w'.cell? ⟨w.heap.size + 1, 1, none⟩ = some (.slice xb nb cb))
    (refine ⟨?_, ?_⟩ <;> repeat (with_reducible first | assumption | refine kCd ?_ | refine kCa ?_ | refine kCb (by assumption) ?_))
    (first
      | (go_at_call 120; with_reducible refine (C1.out _ (by repeat (with_reducible first | assumption | exact Below.refl _ _ | refine Below.drew ?_ | refine kBa ?_ | refine kBb (by assumption) ?_))).mono ?_; rintro e w4 ⟨zp, kp, cp, fp, rfl, hb4, HP⟩)
      | (go_at_call 120; with_reducible refine (C2.out _ (by repeat (with_reducible first | assumption | exact Below.refl _ _ | refine Below.drew ?_ | refine kBa ?_ | refine kBb (by assumption) ?_))).mono ?_; rintro e w5 ⟨zq, kq, cq, fq, rfl, hb5, HQ⟩)
      | (go_at_call 112; with_reducible refine (natMul_n (HP.out.2.below hb5) HQ.out.2 (by have := HP.out.1; omega) (by have := HQ.out.1; omega)).mono ?_; rintro e w6 ⟨zn, kn, cn, fn, rfl, hb6, hkn, hmn⟩))
  have WN6 := hid hmn
  have hkp := HP.out.1; have hkq := HQ.out.1
  have hb : Below w3.heap.size w3 w6 := (by repeat (with_reducible first | assumption | exact Below.refl _ _ | refine Below.drew ?_ | refine kBa ?_ | refine kBb (by assumption) ?_))
  clear HP HQ C1 C2 hb4 hb5 hb6 hmn
  have HA6 := hid (HA3.out.below hb); have HB6 := hid (HB3.out.below hb); have T6 := hid (T3.out.below hb); have WG6 := hid (WG3.out.below hb); have WH6 := hid (WH3.out.below hb); have HW6 := hid (HW3.out.trans (hb.mono HW3.out.size))
  clear HA3 HB3 T3 WG3 WH3 HW3 hb
  clear hza hzb hz x0 x1 x2 y0 y1 y2 z0 z1 z2 zf
  obtain ⟨hz, x0, x1, x2, y0, y1, y2, z0, z1, z2, zf⟩ := T6.out
  have hza : w.heap.size < w6.heap.size := by omega
  have hzb : w.heap.size + 1 < w6.heap.size := by omega
  have C1 : Hid (∀ W, Below w6.heap.size w6 W → Calls Tryz.prog 120 #[.slice ya ma da, .slice zh kh ch] W fun e w' => ∃ z k e' h, e = .returned (.slice z k e') ∧ Below W.heap.size W w' ∧ Hid (k ≤ L ∧ Wn w' false z k e' h (a.den / b.num.natAbs.gcd a.den : Nat))) := fun W hW => (over_c (HA6.out.den.below hW) (WH6.out.below hW) hH0 (by omega) (by omega)).mono (fun e w' ⟨z, k, e', h, h1, h2, h3⟩ => ⟨z, k, e', h, h1, h2, by have := h3.out.1; omega, h3.out.2⟩)
  have C2 : Hid (∀ W, Below w6.heap.size w6 W → Calls Tryz.prog 120 #[.slice yb mb db, .slice zg kg cg] W fun e w' => ∃ z k e' h, e = .returned (.slice z k e') ∧ Below W.heap.size W w' ∧ Hid (k ≤ L ∧ Wn w' false z k e' h (b.den / a.num.natAbs.gcd b.den : Nat))) := fun W hW => (over_c (HB6.out.den.below hW) (WG6.out.below hW) hG0 (by omega) (by omega)).mono (fun e w' ⟨z, k, e', h, h1, h2, h3⟩ => ⟨z, k, e', h, h1, h2, by have := h3.out.1; omega, h3.out.2⟩)
  go_wp2_with fail
  go_region_held3 (fun w' => w'.cell? ⟨w.heap.size, 2, none⟩ = some (.slice ya ma da) ∧ w'.cell? ⟨w.heap.size + 1, 2, none⟩ = some (.slice yb mb db))
    (refine ⟨?_, ?_⟩ <;> repeat (with_reducible first | assumption | refine kCd ?_ | refine kCa ?_ | refine kCb (by assumption) ?_))
    (first
      | (go_at_call 120; with_reducible refine (C1.out _ (by repeat (with_reducible first | assumption | exact Below.refl _ _ | refine Below.drew ?_ | refine kBa ?_ | refine kBb (by assumption) ?_))).mono ?_; rintro e w7 ⟨zr, kr, cr, fr, rfl, hb7, HP⟩)
      | (go_at_call 120; with_reducible refine (C2.out _ (by repeat (with_reducible first | assumption | exact Below.refl _ _ | refine Below.drew ?_ | refine kBa ?_ | refine kBb (by assumption) ?_))).mono ?_; rintro e w8 ⟨zs, ks, cs, fs, rfl, hb8, HQ⟩)
      | (go_at_call 112; with_reducible refine (natMul_n (HP.out.2.below hb8) HQ.out.2 (by have := HP.out.1; omega) (by have := HQ.out.1; omega)).mono ?_; rintro e w9 ⟨zd, kd, cd, fd, rfl, hb9, hkd, hmd⟩))
  have WD9 := hid hmd
  have hkr := HP.out.1; have hks := HQ.out.1
  have hb : Below w6.heap.size w6 w9 := (by repeat (with_reducible first | assumption | exact Below.refl _ _ | refine Below.drew ?_ | refine kBa ?_ | refine kBb (by assumption) ?_))
  clear HP HQ C1 C2 hb7 hb8 hb9 hmd
  have HA9 := hid (HA6.out.below hb); have HB9 := hid (HB6.out.below hb); have T9 := hid (T6.out.below hb); have WN9 := hid (WN6.out.below hb); have HW9 := hid (HW6.out.trans (hb.mono HW6.out.size))
  clear HA6 HB6 T6 WN6 HW6 hb
  clear hza hzb hz x0 x1 x2 y0 y1 y2 z0 z1 z2 zf
  obtain ⟨hz, x0, x1, x2, y0, y1, y2, z0, z1, z2, zf⟩ := T9.out
  have hza : w.heap.size < w9.heap.size := by omega
  have hzb : w.heap.size + 1 < w9.heap.size := by omega
  go_wp2_with fail
  refine (rsigned_c _ zn zd kn cn kd cd _ (by omega)).mono ?_
  rintro e w10 ⟨rs, rfl, HRS, hb⟩
  have HA10 := hid (HA9.out.below hb); have HB10 := hid (HB9.out.below hb); have T10 := hid (T9.out.below hb); have WN10 := hid (WN9.out.below hb); have WD10 := hid (WD9.out.below hb); have HW10 := hid (HW9.out.trans (hb.mono HW9.out.size))
  clear HA9 HB9 T9 WN9 WD9 HW9 hb
  clear hza hzb hz x0 x1 x2 y0 y1 y2 z0 z1 z2 zf
  obtain ⟨hz, x0, x1, x2, y0, y1, y2, z0, z1, z2, zf⟩ := T10.out
  have hza : w.heap.size < w10.heap.size := by omega
  have hzb : w.heap.size + 1 < w10.heap.size := by omega
  have hm := mul_made HA10.out.num.sgn HB10.out.num.sgn
  go_wp2
  refine bodyPost_ret (v := .agg #[.bool rs, .slice zn kn cn, .slice zd kd cd]) (by simp [results, Tryz.results94, go_sem, z0, z1, z2]) rfl ⟨rs, zn, kn, cn, fn, zd, kd, cd, fd, rfl, below_store HW10.out, ⟨?_, ?_, ?_, ?_⟩⟩
  · rw [← hm.1]; exact T10.out.store (WN10.out.resign HRS.out)
  · rw [← hm.2]; exact T10.out.store WD10.out
  · omega
  · omega
end Go.Proofs.YtbindadjepfkcaaGreatDoor
namespace Go.Proofs.YtbindadjepfkcaaGreatDoor
open Go.RowKit

/-- Two lists of limbs that can be read: numerator and denominator, in form or not. -/
structure Rw (w : World) (x : Option Addr) (n c : Nat) (f : Nat → Int) (y : Option Addr) (m d : Nat) (g : Nat → Int) : Prop where
  rx : Rd .u64 w x n f
  lx : Lm f n
  cx : n ≤ c ∧ c ≤ 9223372036854775807
  nx : x = none → n = 0 ∧ c = 0
  ry : Rd .u64 w y m g
  ly : Lm g m
  cy : m ≤ d ∧ d ≤ 9223372036854775807
  ny : y = none → m = 0 ∧ d = 0
theorem Rw.below {w w' x n c f y m d g} (h : Rw w x n c f y m d g) (hb : Below w.heap.size w w') : Rw w' x n c f y m d g := ⟨h.rx.below hb (Nat.le_refl _), h.lx, h.cx, h.nx, h.ry.below hb (Nat.le_refl _), h.ly, h.cy, h.ny⟩
theorem Rw.alloc {w x n c f y m d g} (h : Rw w x n c f y m d g) (o : Obj) : Rw (w.alloc o) x n c f y m d g := h.below (below_alloc (Below.refl _ _) o)
/-- In form: sign, limbs, and nothing in common. -/
def rfB (s : Bool) (f : Nat → Int) (n : Nat) (g : Nat → Int) (m : Nat) : Bool := wfB s f n && (fmB g m && (decide (0 < m) && decide ((vf f n).toNat.gcd (vf g m).toNat = 1)))
theorem natAbs_wv {s : Bool} {f : Nat → Int} {n : Nat} (h : Lm f n) : (wv s f n).natAbs = (vf f n).toNat := by
  have h0 := vf_nonneg h
  cases s
  · rw [wv_false]; omega
  · rw [wv_true]; omega
/-- What is in form is a number. -/
theorem Rw.rn {w s x n c f y m d g L} (h : Rw w x n c f y m d g) (hf : rfB s f n g m = true) (hn : n ≤ L) (hm : m ≤ L) : ∃ q, Rn L w s x n c f y m d g q := by
  simp only [rfB, Bool.and_eq_true, decide_eq_true_eq] at hf
  obtain ⟨h1, h2, h3, h4⟩ := hf
  have hp := vf_pos h.ly (fm_of h2) h3
  refine ⟨⟨wv s f n, (vf g m).toNat, by omega, by rw [natAbs_wv h.lx]; exact h4⟩, ⟨h.rx, h.lx, h1, h.cx, h.nx, rfl⟩, ⟨h.ry, h.ly, (wfB_iff _ _ _).2 ⟨fm_of h2, fun h => by cases h⟩, h.cy, h.ny, ?_⟩, hn, hm⟩
  show vf g m = ((vf g m).toNat : Int)
  omega
theorem Rn.rw {L w s x n c f y m d g q} (h : Rn L w s x n c f y m d g q) : Rw w x n c f y m d g := ⟨h.num.rd, h.num.lm, h.num.cap, h.num.nil, h.den.rd, h.den.lm, h.den.cap, h.den.nil⟩
theorem Rn.rf {L w s x n c f y m d g q} (h : Rn L w s x n c f y m d g q) : rfB s f n g m = true := by
  simp only [rfB, Bool.and_eq_true, decide_eq_true_eq]
  have hd := q.den_pos
  refine ⟨h.num.wf, (fmB_iff _ _).2 h.den.fm, h.den.pos (by omega), ?_⟩
  rw [← natAbs_wv (s := s) h.num.lm, h.num.val, h.den.nv]
  exact q.reduced
theorem Rn.inj {L L' w w' s t x n c f y m d g x' n' c' f' y' m' d' g' q r} (h : Rn L w s x n c f y m d g q) (h' : Rn L' w' t x' n' c' f' y' m' d' g' r) : (s = t ∧ Alk n n' f f' ∧ Alk m m' g g') ↔ q = r := by
  constructor
  · rintro ⟨rfl, ⟨rfl, h1⟩, ⟨rfl, h2⟩⟩
    have e1 : vf f n = vf f' n := vf_congr h1
    have e2 : vf g m = vf g' m := vf_congr h2
    refine Rat.ext ?_ ?_
    · rw [← h.num.val, ← h'.num.val]
      cases s
      · rw [wv_false, wv_false, e1]
      · rw [wv_true, wv_true, e1]
    · have := h.den.nv; have := h'.den.nv; omega
  · rintro rfl
    have ha := vf_nonneg h.num.lm; have hb := vf_nonneg h'.num.lm
    have e2 := vf_inj h.den.lm h'.den.lm h.den.fm h'.den.fm (h.den.nv.trans h'.den.nv.symm)
    have v1 := h.num.val; have v2 := h'.num.val
    have p1 := sgn_of_wfB h.num.wf; have p2 := sgn_of_wfB h'.num.wf
    have q1 : 0 < n → 0 < vf f n := vf_pos h.num.lm h.num.fm
    have q2 : 0 < n' → 0 < vf f' n' := vf_pos h'.num.lm h'.num.fm
    cases s <;> cases t
    · rw [wv_false] at v1 v2
      exact ⟨rfl, vf_inj h.num.lm h'.num.lm h.num.fm h'.num.fm (v1.trans v2.symm), e2⟩
    · rw [wv_false] at v1; rw [wv_true] at v2
      have := q2 (p2 rfl)
      omega
    · rw [wv_true] at v1; rw [wv_false] at v2
      have := q1 (p1 rfl)
      omega
    · rw [wv_true] at v1 v2
      exact ⟨rfl, vf_inj h.num.lm h'.num.lm h.num.fm h'.num.fm (by omega), e2⟩
/-- A box of three cells at block B. -/
structure Bx3 (w : World) (B : Nat) (a0 a1 a2 : Value) : Prop where
  z : B < w.heap.size
  x0 : w.cell? ⟨B, 0, none⟩ = some a0
  x1 : w.cell? ⟨B, 1, none⟩ = some a1
  x2 : w.cell? ⟨B, 2, none⟩ = some a2
theorem Bx3.below {w w' B a0 a1 a2} (h : Bx3 w B a0 a1 a2) (hb : Below w.heap.size w w') : Bx3 w' B a0 a1 a2 := ⟨Nat.lt_of_lt_of_le h.z hb.size, kCb hb h.x0, kCb hb h.x1, kCb hb h.x2⟩
theorem Bx3.alloc {w B a0 a1 a2} (h : Bx3 w B a0 a1 a2) (o : Obj) : Bx3 (w.alloc o) B a0 a1 a2 := h.below (below_alloc (Below.refl _ _) o)
theorem Bx3.next {w w' B a0 a1 a2} {o : Obj} (h : Bx3 w B a0 a1 a2) (hb : Below (w.alloc o).heap.size (w.alloc o) w') : Bx3 w' B a0 a1 a2 := (h.alloc o).below hb
theorem bx3_at (w : World) (a0 a1 a2 : Value) (t : TypeId) : Bx3 (w.alloc (.cells #[a0, a1, a2] t)) w.heap.size a0 a1 a2 := ⟨by simp, by simp [go_sem], by simp [go_sem], by simp [go_sem]⟩
theorem bx3_new {w w' : World} {a0 a1 a2 : Value} {t : TypeId} (hb : Below (w.alloc (.cells #[a0, a1, a2] t)).heap.size (w.alloc (.cells #[a0, a1, a2] t)) w') : Bx3 w' w.heap.size a0 a1 a2 := (bx3_at w a0 a1 a2 t).below hb

set_option maxHeartbeats 1000000 in
theorem rForm_c {w : World} {s x n c f y m d g} (h : Rw w x n c f y m d g) (hn : n ≤ 4096) (hm : m ≤ 4096) :
    Calls Tryz.prog 50 #[.agg #[.bool s, .slice x n c, .slice y m d]] w fun e w' => e = .returned (.bool (rfB s f n g m)) ∧ Below w.heap.size w w' := by
  have H := hid h
  have hrf : rfB s f n g m = (wfB s f n && (fmB g m && (decide (0 < m) && decide ((vf f n).toNat.gcd (vf g m).toNat = 1)))) := rfl
  rw [hrf]
  clear h hrf
  go_enter Tryz.func50, Tryz.ntmps50
  go_wp2_with fail
  refine (numer_c s x y n c m d _).mono ?_
  rintro e w1 ⟨rfl, hb⟩
  have B1 := hid (bx3_new hb); have HW1 : Hid (Below w.heap.size w w1) := (below_alloc (Below.refl w.heap.size w) _).trans (hb.mono (by simp))
  clear hb
  obtain ⟨z, x0, x1, x2⟩ := B1.out
  go_wp2_with fail
  refine (wForm_c s x n c f _ (by omega) (H.out.rx.below HW1.out (Nat.le_refl _))).mono ?_
  rintro e w2 ⟨rfl, hb⟩
  have B2 := hid (B1.out.below hb); have HW2 := hid (HW1.out.trans (hb.mono HW1.out.size))
  clear hb B1 z x0 x1 x2 HW1
  obtain ⟨z, x0, x1, x2⟩ := B2.out
  cases h1 : wfB s f n
  · have E : Hid ((wfB s f n && (fmB g m && (decide (0 < m) && decide ((vf f n).toNat.gcd (vf g m).toNat = 1)))) = false) := hid (by rw [h1]; rfl)
    go_wp2
    go_ret
    exact ⟨by rw [E.out]; rfl, HW2.out⟩
  have F1 := hid h1
  clear h1
  have c2 := form_c y m d g w2 (by omega) (H.out.ry.below HW2.out (Nat.le_refl _))
  go_wp2_with fail
  refine c2.mono ?_
  rintro e w3 ⟨rfl, rfl⟩
  clear c2
  cases h2 : fmB g m
  · have E : Hid ((wfB s f n && (fmB g m && (decide (0 < m) && decide ((vf f n).toNat.gcd (vf g m).toNat = 1)))) = false) := hid (by rw [F1.out, h2]; rfl)
    go_wp2
    go_ret
    exact ⟨by rw [E.out]; rfl, HW2.out⟩
  by_cases h3 : 0 < m
  · have h3' : ((m : Int) == 0) = false := by simp; omega
    have hd3 : decide (0 < m) = true := by simp; omega
    have E : Hid ((wfB s f n && (fmB g m && (decide (0 < m) && decide ((vf f n).toNat.gcd (vf g m).toNat = 1)))) = decide ((((vf f n).toNat.gcd (vf g m).toNat : Nat) : Int) = 1)) := hid (by
      rw [F1.out, h2, hd3, Bool.true_and, Bool.true_and, Bool.true_and]
      by_cases h : (vf f n).toNat.gcd (vf g m).toNat = 1
      · simp [h]
      · have : ¬ ((((vf f n).toNat.gcd (vf g m).toNat : Nat) : Int) = 1) := by omega
        simp [h, this])
    have hh := (H.out.below HW2.out)
    have W1 : Wn w3 false x n c f ((vf f n).toNat : Nat) := ⟨hh.rx, hh.lx, (wfB_iff _ _ _).2 ⟨fm_of_wfB F1.out, fun h => by cases h⟩, hh.cx, hh.nx, by have := vf_nonneg hh.lx; show vf f n = _; omega⟩
    have W2 : Wn w3 false y m d g ((vf g m).toNat : Nat) := ⟨hh.ry, hh.ly, (wfB_iff _ _ _).2 ⟨fm_of h2, fun h => by cases h⟩, hh.cy, hh.ny, by have := vf_nonneg hh.ly; show vf g m = _; omega⟩
    have C3 := hid (ratGcd_c W1 W2 (by omega) (by omega))
    clear hh W1 W2 hd3 h2 h3
    go_wp2_with fail
    refine C3.out.mono ?_
    rintro e w4 ⟨zg, kg, cg, fg, rfl, hb, hg⟩
    have C4 := hid (isOne_c hg)
    clear hg
    go_wp2_with fail
    refine C4.out.mono ?_
    rintro e w5 ⟨rfl, rfl⟩
    go_wp2
    go_ret
    exact ⟨by rw [E.out]; rfl, HW2.out.trans (hb.mono HW2.out.size)⟩
  · have h3' : m = 0 := by omega
    have E : Hid ((wfB s f n && (fmB g m && (decide (0 < m) && decide ((vf f n).toNat.gcd (vf g m).toNat = 1)))) = false) := hid (by simp [h3'])
    subst h3'
    go_wp2
    go_ret
    exact ⟨by rw [E.out]; rfl, HW2.out⟩
theorem rForm_n {L w s x n c f y m d g q} (h : Rn L w s x n c f y m d g q) (hL : L ≤ 4096) :
    Calls Tryz.prog 50 #[.agg #[.bool s, .slice x n c, .slice y m d]] w fun e w' => e = .returned (.bool true) ∧ Below w.heap.size w w' := by
  have h1 := h.ln; have h2 := h.ld
  have := rForm_c (s := s) h.rw (by omega) (by omega)
  rw [h.rf] at this
  exact this

set_option maxRecDepth 100000 in
set_option maxHeartbeats 4000000 in
theorem rAdd_n {L : Nat} {w : World} {sa : Bool} {xa : Option Addr} {na ca : Nat} {fa : Nat → Int} {ya : Option Addr} {ma da : Nat} {ga : Nat → Int} {a : Rat} {sb : Bool} {xb : Option Addr} {nb cb : Nat} {fb : Nat → Int} {yb : Option Addr} {mb db : Nat} {gb : Nat → Int} {b : Rat} (ha : Rn L w sa xa na ca fa ya ma da ga a) (hb : Rn L w sb xb nb cb fb yb mb db gb b) (hL : L ≤ 1000) :
    Calls Tryz.prog 64 #[.agg #[.bool sa, .slice xa na ca, .slice ya ma da], .agg #[.bool sb, .slice xb nb cb, .slice yb mb db]] w fun e w' => RatTup (2 * L + 1) w w' e (a + b) := by
  have HA0 := hid ha; have HB0 := hid hb
  clear ha hb
  go_enter Tryz.func64, Tryz.ntmps64
  go_wp2_with fail
  refine (rForm_n (((HA0.out.alloc _).alloc _).alloc _) (by omega)).mono ?_
  rintro e w1 ⟨rfl, hbel⟩
  obtain ⟨⟨hz, x0, x1, x2, y0, y1, y2, z0, z1, z2, zf⟩, hw⟩ := three_new hbel
  have T1 : Hid (Three w.heap.size w1 _ _ _ _ _ _ _ _ _) := ⟨hz, x0, x1, x2, y0, y1, y2, z0, z1, z2, zf⟩
  have HW1 := hid hw; have HA1 := hid (HA0.out.below hw); have HB1 := hid (HB0.out.below hw)
  clear hbel hw HA0 HB0
  go_wp2_with fail
  refine (rForm_n HB1.out (by omega)).mono ?_
  rintro e w2 ⟨rfl, hb⟩
  have HA2 := hid (HA1.out.below hb); have HB2 := hid (HB1.out.below hb); have T2 := hid (T1.out.below hb); have HW2 := hid (HW1.out.trans (hb.mono HW1.out.size))
  clear HA1 HB1 T1 HW1 hb
  clear hz x0 x1 x2 y0 y1 y2 z0 z1 z2 zf
  obtain ⟨hz, x0, x1, x2, y0, y1, y2, z0, z1, z2, zf⟩ := T2.out
  have hza : w.heap.size < w2.heap.size := by omega
  have hzb : w.heap.size + 1 < w2.heap.size := by omega
  go_wp2_with fail
  refine (ratadd_c HA2.out HB2.out hL).mono ?_
  rintro e w3 ⟨rs, zn, kn, cn, fn, zd, kd, cd, fd, rfl, hb, hr⟩
  have HR := hid hr
  clear hr
  have T3 := hid (T2.out.below hb); have HW3 := hid (HW2.out.trans (hb.mono HW2.out.size))
  clear T2 HW2 hb
  clear hza hzb hz x0 x1 x2 y0 y1 y2 z0 z1 z2 zf
  obtain ⟨hz, x0, x1, x2, y0, y1, y2, z0, z1, z2, zf⟩ := T3.out
  have hza : w.heap.size < w3.heap.size := by omega
  have hzb : w.heap.size + 1 < w3.heap.size := by omega
  go_wp2
  refine bodyPost_ret (v := .tuple #[.agg #[.bool rs, .slice zn kn cn, .slice zd kd cd], .int .i64 0]) (by simp [results, Tryz.results64, go_sem, z0, z1, z2]) rfl ⟨rs, zn, kn, cn, fn, zd, kd, cd, fd, rfl, below_store HW3.out, ⟨?_, ?_, HR.out.ln, HR.out.ld⟩⟩
  · exact T3.out.store HR.out.num
  · exact T3.out.store HR.out.den

set_option maxRecDepth 100000 in
set_option maxHeartbeats 4000000 in
theorem rMul_n {L : Nat} {w : World} {sa : Bool} {xa : Option Addr} {na ca : Nat} {fa : Nat → Int} {ya : Option Addr} {ma da : Nat} {ga : Nat → Int} {a : Rat} {sb : Bool} {xb : Option Addr} {nb cb : Nat} {fb : Nat → Int} {yb : Option Addr} {mb db : Nat} {gb : Nat → Int} {b : Rat} (ha : Rn L w sa xa na ca fa ya ma da ga a) (hb : Rn L w sb xb nb cb fb yb mb db gb b) (hL : L ≤ 1000) :
    Calls Tryz.prog 66 #[.agg #[.bool sa, .slice xa na ca, .slice ya ma da], .agg #[.bool sb, .slice xb nb cb, .slice yb mb db]] w fun e w' => RatTup (2 * L + 1) w w' e (a * b) := by
  have HA0 := hid ha; have HB0 := hid hb
  clear ha hb
  go_enter Tryz.func66, Tryz.ntmps66
  go_wp2_with fail
  refine (rForm_n (((HA0.out.alloc _).alloc _).alloc _) (by omega)).mono ?_
  rintro e w1 ⟨rfl, hbel⟩
  obtain ⟨⟨hz, x0, x1, x2, y0, y1, y2, z0, z1, z2, zf⟩, hw⟩ := three_new hbel
  have T1 : Hid (Three w.heap.size w1 _ _ _ _ _ _ _ _ _) := ⟨hz, x0, x1, x2, y0, y1, y2, z0, z1, z2, zf⟩
  have HW1 := hid hw; have HA1 := hid (HA0.out.below hw); have HB1 := hid (HB0.out.below hw)
  clear hbel hw HA0 HB0
  go_wp2_with fail
  refine (rForm_n HB1.out (by omega)).mono ?_
  rintro e w2 ⟨rfl, hb⟩
  have HA2 := hid (HA1.out.below hb); have HB2 := hid (HB1.out.below hb); have T2 := hid (T1.out.below hb); have HW2 := hid (HW1.out.trans (hb.mono HW1.out.size))
  clear HA1 HB1 T1 HW1 hb
  clear hz x0 x1 x2 y0 y1 y2 z0 z1 z2 zf
  obtain ⟨hz, x0, x1, x2, y0, y1, y2, z0, z1, z2, zf⟩ := T2.out
  have hza : w.heap.size < w2.heap.size := by omega
  have hzb : w.heap.size + 1 < w2.heap.size := by omega
  go_wp2_with fail
  refine (ratmul_c HA2.out HB2.out hL).mono ?_
  rintro e w3 ⟨rs, zn, kn, cn, fn, zd, kd, cd, fd, rfl, hb, hr⟩
  have HR := hid hr
  clear hr
  have T3 := hid (T2.out.below hb); have HW3 := hid (HW2.out.trans (hb.mono HW2.out.size))
  clear T2 HW2 hb
  clear hza hzb hz x0 x1 x2 y0 y1 y2 z0 z1 z2 zf
  obtain ⟨hz, x0, x1, x2, y0, y1, y2, z0, z1, z2, zf⟩ := T3.out
  have hza : w.heap.size < w3.heap.size := by omega
  have hzb : w.heap.size + 1 < w3.heap.size := by omega
  go_wp2
  refine bodyPost_ret (v := .tuple #[.agg #[.bool rs, .slice zn kn cn, .slice zd kd cd], .int .i64 0]) (by simp [results, Tryz.results66, go_sem, z0, z1, z2]) rfl ⟨rs, zn, kn, cn, fn, zd, kd, cd, fd, rfl, below_store HW3.out, ⟨?_, ?_, HR.out.ln, HR.out.ld⟩⟩
  · exact T3.out.store HR.out.num
  · exact T3.out.store HR.out.den

theorem Rn.negate {L w s x n c f y m d g q} {r : Bool} (h : Rn L w s x n c f y m d g q) (hr : r = (!s && decide (0 < n))) : Rn L w r x n c f y m d g (-q) := by
  refine ⟨?_, h.den, h.ln, h.ld⟩
  have h1 := h.num.mag.resign (s := !s) hr
  have h2 := h.num.sgn
  show Wn w r x n c f (-q.num)
  have : -q.num = sg (!s) q.num.natAbs := by
    generalize q.num.natAbs = A at h2
    rw [h2]
    cases s
    · rfl
    · show - -(A : Int) = A; omega
  rw [this]
  exact h1
theorem Rn.invert {L w s x n c f y m d g q} {r : Bool} (h : Rn L w s x n c f y m d g q) (h0 : 0 < n) (hr : r = (s && decide (0 < m))) : Rn L w r y m d g x n c f q⁻¹ := by
  have h2 := h.num.sgn
  have hm : 0 < m := h.den.pos (by have := q.den_pos; omega)
  have hq : 0 < q.num.natAbs := by
    have h3 := vf_pos h.num.lm h.num.fm h0
    have h4 := h.num.mag.nv
    omega
  obtain ⟨e1, e2⟩ := rinv h2 hq
  refine ⟨?_, ?_, h.ld, h.ln⟩
  · rw [e1]; exact h.den.resign hr
  · rw [e2]; exact h.num.mag

end Go.Proofs.YtbindadjepfkcaaGreatDoor
namespace Go.Proofs.YtbindadjepfkcaaGreatDoor
open Go.ChangeShapes Go.WideShapes Go.ChangeAt Go.RowKit

theorem Tryz.readR : Tryz.prog.readableRec 24 = true := by kernel_rfl
theorem Tryz.sizeR : 24 < Tryz.prog.types.size := of_decide_eq_true (by kernel_rfl)
theorem Tryz.cellsR : Tryz.prog.cellsOf 24 = 3 := by kernel_rfl

/-- A struct of three fields: each is read by itself. -/
theorem fields3 {H : Type} {enc : TypeId × Value → H} {P : Program} {w : World} {base : Nat} {spare : Nat → Bool} {held : Bool} {t : TypeId} {f0 f1 f2 : Field} {fuel : Nat} {cs : List Value} {x : DataW H × List MemPlace} (ht : P.underlying t = some (.struct #[f0, f1, f2])) (h : DataW.trod enc P w base spare held fuel t cs = some x) :
    ∃ y0 y1 y2 k, DataW.trod enc P w base spare held k f0.type ((cs.drop f0.offset).take (P.cellsOf f0.type)) = some y0 ∧ DataW.trod enc P w base spare held k f1.type ((cs.drop f1.offset).take (P.cellsOf f1.type)) = some y1 ∧ DataW.trod enc P w base spare held k f2.type ((cs.drop f2.offset).take (P.cellsOf f2.type)) = some y2 := by
  obtain ⟨ys, k, _, rfl, _, hlen, hf⟩ := DataW.trod_struct ht h
  match ys, hlen with
  | [y0, y1, y2], _ => exact ⟨y0, y1, y2, k, by simpa using hf 0 f0 rfl, by simpa using hf 1 f1 rfl, by simpa using hf 2 f2 rfl⟩
set_option maxRecDepth 100000 in
/-- An argument that is a rational number. -/
theorem viewR {H : Type} {enc : TypeId × Value → H} {W : World} {base : Nat} {v : Value} {d : DataW H} {p : List MemPlace} (hok : Value.okWide Tryz.prog W .any base 24 v) (h : DataW.Trod enc Tryz.prog W 0 (fun _ => true) true 24 v d p) :
    ∃ s x n c f y m b g, v = .agg #[.bool s, .slice x n c, .slice y m b] ∧ Rw W x n c f y m b g := by
  obtain ⟨cs, rfl, hsz⟩ := okWide_struct Tryz.underlying24 hok
  rw [Tryz.cellsR] at hsz
  obtain ⟨fuel, hf⟩ := h
  obtain ⟨y0, y1, y2, k, h0, h1, h2⟩ := fields3 Tryz.underlying24 hf
  obtain ⟨l⟩ := cs
  match l, hsz with
  | [c0, c1, c2], _ =>
    have h0' : DataW.trod enc Tryz.prog W 0 (fun _ => true) true k 4 [c0] = some y0 := h0
    have h1' : DataW.trod enc Tryz.prog W 0 (fun _ => true) true k 22 [c1] = some y1 := h1
    have h2' : DataW.trod enc Tryz.prog W 0 (fun _ => true) true k 22 [c2] = some y2 := h2
    obtain ⟨s, hs, _⟩ := DataW.trod_bool Tryz.underlying4 h0'
    obtain ⟨ao, n, cap, f, rfl, hr, hlm, hnil, hc⟩ := viewL h1'
    obtain ⟨bo, m, cap', g, rfl, hr', hlm', hnil', hc'⟩ := viewL h2'
    simp at hs
    subst hs
    exact ⟨s, ao, n, cap, f, bo, m, cap', g, rfl, hr, hlm, hc, hnil, hr', hlm', hc', hnil'⟩
end Go.Proofs.YtbindadjepfkcaaGreatDoor
namespace Go.Proofs.YtbindadjepfkcaaGreatDoor
open Go.ChangeShapes Go.WideShapes Go.ChangeAt Go.RowKit

theorem Tryz.readE : Tryz.prog.readableRec 26 = true := by kernel_rfl
theorem Tryz.sizeE : 26 < Tryz.prog.types.size := of_decide_eq_true (by kernel_rfl)
theorem Tryz.cellsE : Tryz.prog.cellsOf 26 = 4 := by kernel_rfl

set_option maxRecDepth 100000 in
/-- Three cells that are a rational number. -/
theorem viewRc {H : Type} {enc : TypeId × Value → H} {W : World} {k : Nat} {c0 c1 c2 : Value} {z : DataW H × List MemPlace} (hf : DataW.trod enc Tryz.prog W 0 (fun _ => true) true k 24 [c0, c1, c2] = some z) :
    ∃ s x n c f y m b g, c0 = .bool s ∧ c1 = .slice x n c ∧ c2 = .slice y m b ∧ Rw W x n c f y m b g := by
  obtain ⟨y0, y1, y2, k, h0, h1, h2⟩ := fields3 Tryz.underlying24 hf
  have h0' : DataW.trod enc Tryz.prog W 0 (fun _ => true) true k 4 [c0] = some y0 := h0
  have h1' : DataW.trod enc Tryz.prog W 0 (fun _ => true) true k 22 [c1] = some y1 := h1
  have h2' : DataW.trod enc Tryz.prog W 0 (fun _ => true) true k 22 [c2] = some y2 := h2
  obtain ⟨s, hs, _⟩ := DataW.trod_bool Tryz.underlying4 h0'
  obtain ⟨ao, n, cap, f, rfl, hr, hlm, hnil, hc⟩ := viewL h1'
  obtain ⟨bo, m, cap', g, rfl, hr', hlm', hnil', hc'⟩ := viewL h2'
  simp at hs
  exact ⟨s, ao, n, cap, f, bo, m, cap', g, hs, rfl, rfl, hr, hlm, hc, hnil, hr', hlm', hc', hnil'⟩
set_option maxRecDepth 100000 in
/-- An argument that is a bound. -/
theorem viewE {H : Type} {enc : TypeId × Value → H} {W : World} {base : Nat} {v : Value} {d : DataW H} {p : List MemPlace} (hok : Value.okWide Tryz.prog W .any base 26 v) (h : DataW.Trod enc Tryz.prog W 0 (fun _ => true) true 26 v d p) :
    ∃ i s x n c f y m b g, v = .agg #[.int .i64 i, .bool s, .slice x n c, .slice y m b] ∧ Rw W x n c f y m b g := by
  obtain ⟨cs, rfl, hsz⟩ := okWide_struct Tryz.underlying26 hok
  rw [Tryz.cellsE] at hsz
  obtain ⟨fuel, hf⟩ := h
  obtain ⟨y0, y1, k, hx, hl, h0, h1⟩ := trod_struct2 Tryz.underlying26 hf
  obtain ⟨l⟩ := cs
  match l, hsz with
  | [c0, c1, c2, c3], _ =>
    have h0' : DataW.trod enc Tryz.prog W 0 (fun _ => true) true k 3 [c0] = some y0 := h0
    have h1' : DataW.trod enc Tryz.prog W 0 (fun _ => true) true k 24 [c1, c2, c3] = some y1 := h1
    obtain ⟨i, hs, _⟩ := DataW.trod_int Tryz.underlying3 h0'
    obtain ⟨s, x, n, c, f, y, m, b, g, rfl, rfl, rfl, hr⟩ := viewRc h1'
    simp at hs
    subst hs
    exact ⟨i, s, x, n, c, f, y, m, b, g, rfl, hr⟩
end Go.Proofs.YtbindadjepfkcaaGreatDoor
namespace Go.Proofs.YtbindadjepfkcaaGreatDoor
open Go.RowKit

theorem mul_digit {Q Q' : Nat → Int} {i j : Nat} {C x y t : Int} {S H : Int} (HV : vd (sh Q i) j + C * pd j = S + x * H) (hk : ∀ k, k < j → Q' (i + k) = Q (i + k)) (hq : Q' (i + j) = t % 4294967296) (ht : t = C + (Q (i + j) + x * y)) :
    vd (sh Q' i) (j + 1) + (t / 4294967296) * pd (j + 1) = (S + Q (i + j) * pd j) + x * (H + y * pd j) := by
  rw [vd_succ, vd_congr (f := sh Q' i) (g := sh Q i) (n := j) (fun k h => hk k h), pd_succ]
  have e1 : sh Q' i j = t % 4294967296 := hq
  rw [e1]
  have e2 : t % 4294967296 = t - 4294967296 * (t / 4294967296) := by omega
  rw [e2, ht]
  generalize (C + (Q (i + j) + x * y)) / 4294967296 = u
  grind
theorem mul_row {Q0 Q Q' : Nat → Int} {i m : Nat} {C x F H : Int} (h0 : vd Q0 (i + m) = F * H) (HV : vd (sh Q i) m + C * pd m = vd (sh Q0 i) m + x * H) (he : ∀ k, k < i → Q k = Q0 k) (hk : ∀ k, k < i + m → Q' k = Q k) (hc : Q' (i + m) = C) :
    vd Q' (i + m + 1) = (F + x * pd i) * H := by
  rw [vd_succ, hc, vd_congr (f := Q') (g := Q) (n := i + m) hk, vd_split, vd_congr (f := Q) (g := Q0) (n := i) he, pd_add]
  rw [vd_split] at h0
  grind

set_option maxRecDepth 100000 in
set_option maxHeartbeats 2000000 in
theorem rmulD_c (ao bo : Option Addr) (n m ca cb : Nat) (f h : Nat → Int) (w : World) (hn : n ≤ 8192) (hm : m ≤ 8192) (hr : Rd .u64 w ao n f) (hs : Rd .u64 w bo m h) (hf : Dg f n) (hh : Dg h m) :
    Calls Tryz.prog 126 #[.slice ao n ca, .slice bo m cb] w fun e w' => ∃ a1 k c1 q, e = .returned (.slice a1 k c1) ∧ Below w.heap.size w w' ∧ k ≤ n + m ∧ Rd .u64 w' a1 k q ∧ Dg q k ∧ Fm q k ∧ vd q k = vd f n * vd h m := by
  have HR := hid hr; have HS := hid hs; have HF := hid hf; have HH := hid hh
  clear hr hs hf hh
  go_enter Tryz.func126, Tryz.ntmps126
  go_wp2_with (at_make; refine wpList_make_blk .u64 w rfl (.tmp 15) (.tmp 15) 22 rfl 61 8 Tryz.underlying22 Tryz.infoU64 .i64 .i64 ((n : Int) + (m : Int)) ((n : Int) + (m : Int)) (n + m) rfl rfl (by omega) (by omega) (by omega) (by unfold maxLen; omega) ?_; intro wa hba hbela)
  go_loopw [19] (fun t wr => ∃ (i : Nat) (Q : Nat → Int), i ≤ n ∧ t = .int .i64 i ∧ Below w.heap.size w wr ∧ Blk .u64 61 wr w.heap.size (n + m) Q ∧ Hid (Dg Q (n + m)) ∧ Hid (∀ k, i + m ≤ k → k < n + m → Q k = 0) ∧ Hid (vd Q (i + m) = vd f i * vd h m)) (fun t _ => n - (intOf t).toNat)
  case atStart => exact ⟨0, fun _ => 0, by omega, rfl, hbela, hba, fun j _ => ⟨Int.le_refl 0, show (0 : Int) < 4294967296 by decide⟩, fun _ _ _ => rfl, hid (by rw [vd_zero (fun _ _ => rfl)]; simp [vd])⟩
  case round =>
    clear hba hbela
    obtain ⟨i, Q0, hi, rfl, hbel, hbl, HL, HZ, HV⟩ := hrel
    by_cases hlt : i < n
    · have hr := HR.out
      obtain ⟨b, o, rfl⟩ := hr.at (by omega)
      obtain ⟨x, hx⟩ : ∃ x, f i = x := ⟨_, rfl⟩
      have hcell : wr.cell? ⟨b, o + i, none⟩ = some (.int .u64 x) := by rw [← hx]; exact (hr.below hbel (Nat.le_refl _)).cell (by omega)
      obtain ⟨x0, x1⟩ := HF.out i (by omega)
      rw [hx] at x0 x1
      have HX := hid hx; have HBl := hid hbl; have HBe := hid hbel
      clear hx hr
      go_wp2
      go_loopw [8, 26] (fun c t wr => ∃ (j : Nat) (C : Int) (Q : Nat → Int), j ≤ m ∧ t = .int .i64 j ∧ c = .int .u64 C ∧ 0 ≤ C ∧ C < 4294967296 ∧ Below w.heap.size w wr ∧ Blk .u64 61 wr w.heap.size (n + m) Q ∧ Hid (Dg Q (n + m)) ∧ Hid (∀ k, k < i ∨ i + j ≤ k → Q k = Q0 k) ∧ Hid (vd (sh Q i) j + C * pd j = vd (sh Q0 i) j + x * vd h j)) (fun _ t _ => m - (intOf t).toNat)
      case atStart => exact ⟨0, 0, Q0, by omega, rfl, rfl, by omega, by omega, HBe.out, HBl.out, HL.out, fun _ _ => rfl, hid (by simp [vd])⟩
      case round =>
        clear hbel hbl hcell
        obtain ⟨j, C, Q, hj, rfl, rfl, C0, C1, hbel, hbl, HD, HE, HW⟩ := hrel
        by_cases hjm : j < m
        · have hs := HS.out
          obtain ⟨b', o', rfl⟩ := hs.at (by omega)
          obtain ⟨y, hy⟩ : ∃ y, h j = y := ⟨_, rfl⟩
          obtain ⟨z, hz⟩ : ∃ z, Q (i + j) = z := ⟨_, rfl⟩
          rename_i wq
          have hcy := (hs.below hbel (Nat.le_refl _)).cell (j := j) (by omega)
          rw [hy] at hcy
          have hcz := hbl.cell (j := i + j) (by omega)
          rw [hz] at hcz
          have hfz := hbl.frozen (i + j)
          obtain ⟨y0, y1⟩ := HH.out j (by omega)
          rw [hy] at y0 y1
          obtain ⟨z0, z1⟩ := HD.out (i + j) (by omega)
          rw [hz] at z0 z1
          have hxy0 : 0 ≤ x * y := Int.mul_nonneg x0 y0
          have hxy1 : x * y ≤ 4294967295 * 4294967295 := Int.mul_le_mul (by omega) (by omega) y0 (by omega)
          obtain ⟨P, hP⟩ : ∃ P, x * y = P := ⟨_, rfl⟩
          rw [hP] at hxy0 hxy1
          obtain ⟨t, ht⟩ : ∃ t, C + (z + P) = t := ⟨_, rfl⟩
          have t0 : 0 ≤ t := by omega
          have t1 : t < 18446744073709551616 := by omega
          have ht2 : t / 4294967296 < 4294967296 := by omega
          have hst := mul_digit (Q' := upd Q (i + j) (t % 4294967296)) (t := t) (y := y) HW.out (fun k hk => upd_other _ _ _ _ (by omega)) (upd_same _ _ _) (by rw [hz, hP, ht])
          have HSt := hid hst; have HY := hid hy; have HZz := hid hz
          clear hst hy hz hs
          go_wp2
          go_roundw
          case rel =>
            refine ⟨j + 1, t / 4294967296, upd Q (i + j) (t % 4294967296), by omega, by go_num, ?_, by omega, ht2, below_only hbel ((Only.refl _ _).setCell _ _ _) (Nat.le_refl _) hbel.size, hbl.set _ _, HD.out.upd ⟨by omega, by omega⟩, fun k hk => ?_, ?_⟩
            · first | rfl | (rw [ht]) | go_num
            · rw [upd_other _ _ _ _ (by omega)]; exact HE.out k (by omega)
            · have e1 : vd (sh Q0 i) (j + 1) = vd (sh Q0 i) j + Q (i + j) * pd j := by rw [vd_succ, HE.out (i + j) (by omega)]; rfl
              have e2 : vd h (j + 1) = vd h j + y * pd j := by rw [vd_succ, HY.out]
              show vd _ _ + _ = _
              rw [e1, e2]
              exact HSt.out
          case measure => simp [intOf]; omega
        · have hjm' : j = m := by omega
          subst hjm'
          have hcm := hbl.cell (j := i + j) (by omega)
          have hfz := hbl.frozen (i + j)
          have hrow := mul_row (Q' := upd Q (i + j) C) HV.out HW.out (fun k hk => HE.out k (.inl hk)) (fun k hk => upd_other _ _ _ _ (by omega)) (upd_same _ _ _)
          have HRow := hid hrow
          clear hrow
          go_wp2
          go_roundw
          case rel =>
            refine ⟨i + 1, upd Q (i + j) C, by omega, by go_num, below_only hbel ((Only.refl _ _).setCell _ _ _) (Nat.le_refl _) hbel.size, hbl.set _ _, HD.out.upd ⟨C0, C1⟩, fun k h1 h2 => ?_, ?_⟩
            · rw [upd_other _ _ _ _ (by omega), HE.out k (.inr (by omega))]; exact HZ.out k (by omega) h2
            · show vd _ _ = _
              rw [show i + 1 + j = i + j + 1 by omega, vd_succ f i, HX.out]
              exact HRow.out
          case measure => simp [intOf]; omega
    · have hin : i = n := by omega
      subst hin
      go_wp2_with fail
      refine (low_c (some ⟨w.heap.size, 0, none⟩) (i + m) (i + m) Q0 wr (Nat.le_refl _) (by omega) (hbl.rd0 (Nat.le_refl _)) (fun h => by cases h)).mono ?_
      rintro e w2 ⟨rfl, k1, hk1, hz, hfm, rfl⟩
      have HZ2 := hid hz; have HFM := hid hfm
      clear hz hfm
      go_wp2
      go_ret
      refine ⟨_, k1, _, Q0, rfl, hbel, hk1, (hbl.rd0 (Nat.le_refl _)).take hk1, HL.out.mono hk1, HFM.out, ?_⟩
      rw [trim_vald hk1 HZ2.out]; exact HV.out
end Go.Proofs.YtbindadjepfkcaaGreatDoor
namespace Go.Proofs.YtbindadjepfkcaaGreatDoor
open Go.RowKit

/-- Digits in form that can be read, with their number. -/
structure Dn (w : World) (x : Option Addr) (n : Nat) (d : Nat → Int) (V : Nat) : Prop where
  rd : Rd .u64 w x n d
  dg : Dg d n
  fm : Fm d n
  val : vd d n = V
theorem Dn.below {w w' x n d V} (h : Dn w x n d V) (hb : Below w.heap.size w w') : Dn w' x n d V := ⟨h.rd.below hb (Nat.le_refl _), h.dg, h.fm, h.val⟩
theorem Dn.alloc {w x n d V} (h : Dn w x n d V) (o : Obj) : Dn (w.alloc o) x n d V := ⟨h.rd.below ((Below.refl _ _).alloc (Nat.le_refl _) o) (Nat.le_refl _), h.dg, h.fm, h.val⟩
theorem Dn.next {w w' x n d V} {o : Obj} (h : Dn w x n d V) (hb : Below (w.alloc o).heap.size (w.alloc o) w') : Dn w' x n d V := (h.alloc o).below hb
theorem Dn.drew {w x n d V} (h : Dn w x n d V) : Dn w.drew x n d V := ⟨h.rd, h.dg, h.fm, h.val⟩
theorem Dn.pos {w x n d V} (h : Dn w x n d V) (hV : 0 < V) : 0 < n := by
  rcases Nat.eq_zero_or_pos n with h0 | h0
  · subst h0; have : (0 : Int) = V := h.val; omega
  · exact h0
theorem Dn.zero {w x d V} (h : Dn w x 0 d V) : V = 0 := by have : (0 : Int) = V := h.val; omega
theorem Dn.pos' {w x n d V} (h : Dn w x n d V) (hn : 0 < n) : 0 < V := by
  have h1 := vd_form_ge h.dg h.fm hn
  have h2 := pd_pos (n - 1)
  rw [h.val] at h1
  omega
theorem dAdd_c {w x n c d A y m e g B} (ha : Dn w x n d A) (hb : Dn w y m g B) (hn : n ≤ 8192) (hm : m ≤ 8192) :
    Calls Tryz.prog 143 #[.slice x n c, .slice y m e] w fun e w' => ∃ z k c' q, e = .returned (.slice z k c') ∧ Below w.heap.size w w' ∧ Hid (k ≤ n + m + 1 ∧ Dn w' z k q (A + B)) :=
  (radd_c x y n m c e d g w (by omega) (by omega) ha.rd hb.rd ha.dg hb.dg).mono (fun _ _ ⟨z, k, c', q, h1, h2, h3, h4, h5, h6, h7⟩ => ⟨z, k, c', q, h1, h2, h4, h3, h5, h6, by rw [h7, ha.val, hb.val]; omega⟩)
theorem dSub_c {w x n c d A y m e g B} (ha : Dn w x n d A) (hb : Dn w y m g B) (hn : n ≤ 8192) (hm : m ≤ 8192) (hle : B ≤ A) :
    Calls Tryz.prog 107 #[.slice x n c, .slice y m e] w fun e w' => ∃ z k c' q, e = .returned (.slice z k c') ∧ Below w.heap.size w w' ∧ Hid (k ≤ n ∧ Dn w' z k q (A - B)) :=
  (rsub_c x y n m c e d g w (by omega) (by omega) (vd_len hb.dg ha.dg hb.fm (by rw [ha.val, hb.val]; omega)) ha.rd hb.rd ha.dg hb.dg (by rw [ha.val, hb.val]; omega)).mono (fun _ _ ⟨z, k, c', q, h1, h2, h3, h4, h5, h6, h7⟩ => ⟨z, k, c', q, h1, h2, h4, h3, h5, h6, by rw [h7, ha.val, hb.val]; omega⟩)
theorem dMul_c {w x n c d A y m e g B} (ha : Dn w x n d A) (hb : Dn w y m g B) (hn : n ≤ 8192) (hm : m ≤ 8192) :
    Calls Tryz.prog 126 #[.slice x n c, .slice y m e] w fun e w' => ∃ z k c' q, e = .returned (.slice z k c') ∧ Below w.heap.size w w' ∧ Hid (k ≤ n + m ∧ Dn w' z k q (A * B)) :=
  (rmulD_c x y n m c e d g w hn hm ha.rd hb.rd ha.dg hb.dg).mono (fun _ _ ⟨z, k, c', q, h1, h2, h3, h4, h5, h6, h7⟩ => ⟨z, k, c', q, h1, h2, h3, h4, h5, h6, by rw [h7, ha.val, hb.val]; simp⟩)
end Go.Proofs.YtbindadjepfkcaaGreatDoor
namespace Go.Proofs.YtbindadjepfkcaaGreatDoor
open Go.RowKit

theorem drewN_bel {w w' : World} {q : Nat} (h : w' = w.drewN q) : Below w.heap.size w w' := by rw [h]; exact below_drewN (Below.refl _ _) _
/-- One digit otherwise. -/
theorem vd_upd {Q : Nat → Int} {p N : Nat} {t : Int} (hp : p < N) : vd (upd Q p t) N = vd Q N + (t - Q p) * pd p := by
  obtain ⟨d, rfl⟩ : ∃ d, N = p + 1 + d := ⟨N - (p + 1), by omega⟩
  have e1 : vd (upd Q p t) p = vd Q p := vd_congr (fun j hj => upd_other _ _ _ _ (by omega))
  have e2 : vd (sh (upd Q p t) (p + 1)) d = vd (sh Q (p + 1)) d := vd_congr (fun j hj => upd_other _ _ _ _ (by omega))
  rw [vd_split (upd Q p t) (p + 1) d, vd_split Q (p + 1) d, vd_succ, vd_succ, e1, e2, upd_same]
  grind
theorem p2_pos (s : Nat) : (0 : Int) < 2 ^ s := Int.pow_pos (by decide)
theorem p2_32 {s : Nat} (h : s ≤ 32) : (2 : Int) ^ s * 2 ^ (32 - s) = 4294967296 := by rw [← Int.pow_add, show s + (32 - s) = 32 by omega]; rfl
theorem p2_le {s : Nat} (h : s ≤ 31) : (2 : Int) ^ s ≤ 2147483648 := by
  have : (2 : Int) ^ s * 2 ^ (31 - s) = 2147483648 := by rw [← Int.pow_add, show s + (31 - s) = 31 by omega]; rfl
  have q0 : (0 : Int) < 2 ^ (31 - s) := p2_pos _
  have := Int.mul_le_mul_of_nonneg_left (show (1 : Int) ≤ 2 ^ (31 - s) by omega) (Int.le_of_lt (p2_pos s))
  omega
theorem p2_succ (s : Nat) : (2 : Int) ^ (s + 1) = 2 * 2 ^ s := by rw [Int.pow_succ, Int.mul_comm]
/-- What is less than one and not below none, is none. -/
theorem none_of_lt {D p : Int} (h0 : 0 ≤ D * p) (h1 : D * p < p) (hp : 0 < p) : D = 0 := by
  rcases Int.lt_trichotomy D 0 with h | h | h
  · have := Int.mul_le_mul_of_nonneg_right (show D ≤ -1 by omega) (Int.le_of_lt hp); omega
  · exact h
  · have := Int.mul_le_mul_of_nonneg_right (show 1 ≤ D by omega) (Int.le_of_lt hp); omega
/-- There is room for the bit. -/
theorem bit_room {Q : Nat → Int} {n j s : Nat} {V : Int} (h : Dg Q n) (hj : j < n) (hs : s ≤ 31) (hv : vd Q n = V * (2 ^ (s + 1) * pd j)) : Q j + 2 ^ s < 4294967296 := by
  obtain ⟨d, rfl⟩ : ∃ d, n = j + 1 + d := ⟨n - (j + 1), by omega⟩
  have a0 := vd_nonneg (h.mono (m := j) (by omega))
  have a1 := vd_lt (h.mono (m := j) (by omega))
  have hp := pd_pos j
  obtain ⟨q0, q1⟩ := h j (by omega)
  rw [vd_split, vd_succ, pd_succ] at hv
  generalize vd (sh Q (j + 1)) d = T at hv
  have e : vd Q j = (V * 2 ^ (s + 1) - Q j - T * 4294967296) * pd j := by grind
  have z := none_of_lt (D := V * 2 ^ (s + 1) - Q j - T * 4294967296) (p := pd j) (by omega) (by omega) hp
  have m := p2_32 (s := s + 1) (by omega)
  have e3 : Q j = 2 ^ (s + 1) * (V - T * 2 ^ (32 - (s + 1))) := by grind
  have g0 := p2_pos (s + 1)
  have g1 := p2_succ s
  generalize (V - T * 2 ^ (32 - (s + 1))) = E at e3
  have : E < 2 ^ (32 - (s + 1)) := by
    apply Int.lt_of_not_ge; intro hge
    have := Int.mul_le_mul_of_nonneg_left hge (Int.le_of_lt g0)
    omega
  have := Int.mul_le_mul_of_nonneg_left (show E ≤ 2 ^ (32 - (s + 1)) - 1 by omega) (Int.le_of_lt g0)
  rw [Int.mul_sub, Int.mul_one, m] at this
  have := p2_pos s
  omega
/-- The bit of a digit is the number's. -/
theorem bit_num {f : Nat → Int} {n j s : Nat} (h : Dg f n) (hj : j < n) (hs : s ≤ 31) : f j / 2 ^ s % 2 = vd f n / 2 ^ (32 * j + s) % 2 := by
  obtain ⟨d, rfl⟩ : ∃ d, n = j + 1 + d := ⟨n - (j + 1), by omega⟩
  have a0 := vd_nonneg (h.mono (m := j) (by omega))
  have a1 := vd_lt (h.mono (m := j) (by omega))
  have hp := pd_pos j
  rw [vd_split, vd_succ, pd_succ, Int.pow_add, ← pd_pow]
  generalize vd (sh f (j + 1)) d = T
  have e : vd f j + f j * pd j + T * (4294967296 * pd j) = vd f j + (f j + T * 4294967296) * pd j := by grind
  rw [e, ← Int.ediv_ediv_of_nonneg (Int.le_of_lt hp), Int.add_mul_ediv_right _ _ (by omega), Int.ediv_eq_zero_of_lt a0 a1, Int.zero_add]
  have m := p2_32 (s := s) (by omega)
  have e2 : f j + T * 4294967296 = f j + (T * 2 ^ (32 - s)) * 2 ^ s := by rw [← m]; grind
  have g := p2_pos s
  rw [e2, Int.add_mul_ediv_right _ _ (by omega)]
  have e3 : (2 : Int) ^ (32 - s) = 2 * 2 ^ (31 - s) := by rw [show 32 - s = (31 - s) + 1 by omega, p2_succ]
  rw [e3]
  generalize f j / 2 ^ s = u
  have e4 : T * (2 * 2 ^ (31 - s)) = 2 * (T * 2 ^ (31 - s)) := by grind
  rw [e4]; omega
/-- One bit more. -/
theorem bit_step {A M : Int} {k : Nat} (h : A / 2 ^ (k + 1) = M) : A / 2 ^ k = 2 * M + A / 2 ^ k % 2 := by
  have : A / 2 ^ (k + 1) = A / 2 ^ k / 2 := by rw [Int.pow_succ, Int.ediv_ediv_of_nonneg (Int.le_of_lt (p2_pos k))]
  omega
/-- The highest digit's bits are the number's. -/
theorem bits_top {f : Nat → Int} {n c : Nat} (h : Dg f (n + 1)) (hc : f n < 2 ^ c) : vd f (n + 1) < 2 ^ (32 * n + c) := by
  have a1 := vd_lt (h.mono (m := n) (by omega))
  have hp := pd_pos n
  rw [vd_succ, Int.pow_add, ← pd_pow]
  have := Int.mul_le_mul_of_nonneg_right (show f n + 1 ≤ 2 ^ c by omega) (Int.le_of_lt hp)
  rw [Int.add_mul, Int.one_mul] at this
  rw [Int.mul_comm (pd n)]
  omega
theorem bits_half {x t : Int} {c : Nat} (h1 : x * 2 ^ c ≤ t) (h2 : t < (x + 1) * 2 ^ c) : x / 2 * 2 ^ (c + 1) ≤ t ∧ t < (x / 2 + 1) * 2 ^ (c + 1) := by
  have g := p2_pos c
  rw [p2_succ]
  have k1 := Int.mul_le_mul_of_nonneg_right (show 2 * (x / 2) ≤ x by omega) (Int.le_of_lt g)
  have k2 := Int.mul_le_mul_of_nonneg_right (show x + 1 ≤ 2 * (x / 2) + 2 by omega) (Int.le_of_lt g)
  generalize (2 : Int) ^ c = P at *
  generalize x / 2 = y at *
  constructor
  · have : y * (2 * P) = 2 * y * P := by grind
    omega
  · have : (y + 1) * (2 * P) = (2 * y + 2) * P := by grind
    omega
theorem bits_few {x t : Int} {c : Nat} (h1 : x * 2 ^ c ≤ t) (hx : 0 < x) (ht : t < 4294967296) : c < 32 := by
  apply Nat.lt_of_not_le; intro h
  obtain ⟨d, rfl⟩ := Nat.exists_eq_add_of_le h
  have g := p2_pos d
  have g2 := p2_pos (32 + d)
  have k1 := Int.mul_le_mul_of_nonneg_right (show 1 ≤ x by omega) (Int.le_of_lt g2)
  have : (2 : Int) ^ (32 + d) = 4294967296 * 2 ^ d := by rw [Int.pow_add]; rfl
  have k2 := Int.mul_le_mul_of_nonneg_left (show (1 : Int) ≤ 2 ^ d by omega) (show (0 : Int) ≤ 4294967296 by decide)
  omega

set_option maxRecDepth 100000 in
set_option maxHeartbeats 1000000 in
theorem rbit_c (ao : Option Addr) (n cap : Nat) (f : Nat → Int) (i : Nat) (w : World) (hn : n ≤ 1048576) (hr : Rd .u64 w ao n f) (hf : Dg f n) (hi : i < 32 * n) :
    Calls Tryz.prog 165 #[.slice ao n cap, .int .i64 i] w fun e w' => e = .returned (.int .u64 (vd f n / 2 ^ i % 2)) ∧ w' = w := by
  obtain ⟨j, s, rfl, hs⟩ : ∃ j s, i = 32 * j + s ∧ s ≤ 31 := ⟨i / 32, i % 32, by omega, by omega⟩
  have hj : j < n := by omega
  rw [← bit_num hf hj hs]
  obtain ⟨b, o, rfl⟩ := hr.at (by omega)
  obtain ⟨x, hx⟩ : ∃ x, f j = x := ⟨_, rfl⟩
  have hcell := hr.cell hj
  obtain ⟨x0, x1⟩ := hf j hj
  rw [hx] at hcell x0 x1 ⊢
  obtain ⟨z, hz⟩ : ∃ z : Int, ((32 * j + s : Nat) : Int) = z := ⟨_, rfl⟩
  rw [hz]
  have z0 : 0 ≤ z := by omega
  have z1 : z ≤ 67108927 := by omega
  have h3 : Int.tdiv z 32 = (j : Int) := by rw [Int.tdiv_eq_ediv_of_nonneg z0]; omega
  have h4 : Int.tmod z 32 = (s : Int) := by rw [Int.tmod_eq_emod_of_nonneg z0]; omega
  have d0 : 0 ≤ x / 2 ^ s := Int.ediv_nonneg x0 (Int.le_of_lt (p2_pos s))
  have d1 : x / 2 ^ s < 4294967296 := Int.lt_of_le_of_lt (Int.ediv_le_self _ x0) x1
  have HX := hid hx
  clear hx hz hr hf hi
  go_enter Tryz.func165, Tryz.ntmps165
  go_wp2
  go_ret
  exact ⟨rfl, rfl⟩

set_option maxRecDepth 100000 in
set_option maxHeartbeats 1000000 in
theorem rbits_c (ao : Option Addr) (n cap : Nat) (f : Nat → Int) (w : World) (hn : n ≤ 1048576) (hr : Rd .u64 w ao n f) (hf : Dg f n) :
    Calls Tryz.prog 164 #[.slice ao n cap] w fun e w' => ∃ B : Nat, e = .returned (.int .i64 B) ∧ (∃ q, w' = w.drewN q) ∧ Hid (B ≤ 32 * n ∧ vd f n < 2 ^ B) := by
  cases n with
  | zero =>
    go_enter Tryz.func164, Tryz.ntmps164
    go_wp2
    go_ret
    exact ⟨0, rfl, ⟨0, rfl⟩, by omega, by simp [vd]⟩
  | succ n =>
    obtain ⟨b, o, rfl⟩ := hr.at (by omega)
    obtain ⟨t, ht⟩ : ∃ t, f n = t := ⟨_, rfl⟩
    have hcell := hr.cell (j := n) (by omega)
    obtain ⟨t0, t1⟩ := hf n (by omega)
    rw [ht] at hcell t0 t1
    have HT := hid ht; have HF := hid hf
    clear ht hr hf
    go_enter Tryz.func164, Tryz.ntmps164
    go_wp2
    go_loopw [3, 4] (fun u v wr => ∃ (c : Nat) (x : Int), c ≤ 32 ∧ u = .int .i64 ((32 * n + c : Nat) : Int) ∧ v = .int .u64 x ∧ 0 ≤ x ∧ x < 4294967296 ∧ Hid (x * 2 ^ c ≤ t ∧ t < (x + 1) * 2 ^ c) ∧ ∃ q, wr = w.drewN q) (fun _ v _ => (intOf v).toNat)
    case atStart => exact ⟨0, t, by omega, by go_num, rfl, t0, t1, ⟨by rw [Int.pow_zero, Int.mul_one]; exact Int.le_refl _, by rw [Int.pow_zero, Int.mul_one]; omega⟩, 0, rfl⟩
    case round =>
      obtain ⟨c, x, hc, rfl, rfl, x0, x1, HX, q, rfl⟩ := hrel
      by_cases hx : 0 < x
      · have hfew := bits_few HX.out.1 hx t1
        have hh := bits_half HX.out.1 HX.out.2
        have HH := hid hh
        clear hh
        go_wp2
        go_roundw
        case rel => exact ⟨c + 1, x / 2, by omega, by go_num, by go_num, by omega, by omega, HH.out, q, rfl⟩
        case measure => simp [intOf]; omega
      · obtain rfl : x = 0 := by omega
        have htop := bits_top (c := c) HF.out (by rw [HT.out]; have := HX.out.2; simpa using this)
        have HTop := hid htop
        clear htop
        go_wp2
        go_ret
        exact ⟨32 * n + c, rfl, ⟨q, rfl⟩, by omega, HTop.out⟩

theorem dWord_c {w : World} {V : Nat} (hV : V < 4294967296) :
    Calls Tryz.prog 111 #[.int .u64 (V : Int)] w fun e w' => ∃ z k c d, e = .returned (.slice z k c) ∧ Below w.heap.size w w' ∧ Hid (k ≤ 1 ∧ Dn w' z k d V) :=
  (word_c V w (by omega) (by omega)).mono (fun _ _ ⟨k, h1, h2, h3, h4, h5, h6⟩ => ⟨_, k, 2, _, h1, h2, h3, h4, fun j hj => ⟨by omega, by omega⟩, h6, by
    rcases (show k = 0 ∨ k = 1 by omega) with h | h
    · subst h; have := h5 rfl; simp [vd]; omega
    · subst h; simp [vd, pd]⟩)
theorem dAddO_c {w x n c d A y m e g B} (ha : Dn w x n d A) (hb : Dn w y m g B) (hn : n ≤ 65536) (hm : m ≤ 65536) :
    Calls Tryz.prog 143 #[.slice x n c, .slice y m e] w fun e w' => ∃ z k c' q, e = .returned (.slice z k c') ∧ Below w.heap.size w w' ∧ Hid (k ≤ n + m + 1 ∧ Dn w' z k q (A + B) ∧ ∀ a, z = some a → w.heap.size ≤ a.block) :=
  (raddO_c x y n m c e d g w (by omega) (by omega) ha.rd hb.rd ha.dg hb.dg).mono (fun _ _ ⟨z, k, c', q, h1, h2, h3, h4, h5, h6, h8, h7⟩ => ⟨z, k, c', q, h1, h2, h4, ⟨h3, h5, h6, by rw [h7, ha.val, hb.val]; omega⟩, h8⟩)
theorem dSubO_c {w x n c d A y m e g B} (ha : Dn w x n d A) (hb : Dn w y m g B) (hn : n ≤ 65536) (hm : m ≤ 65536) (hle : B ≤ A) :
    Calls Tryz.prog 107 #[.slice x n c, .slice y m e] w fun e w' => ∃ z k c' q, e = .returned (.slice z k c') ∧ Below w.heap.size w w' ∧ Hid (k ≤ n ∧ Dn w' z k q (A - B) ∧ ∀ a, z = some a → w.heap.size ≤ a.block) :=
  (rsubO_c x y n m c e d g w (by omega) (by omega) (vd_len hb.dg ha.dg hb.fm (by rw [ha.val, hb.val]; omega)) ha.rd hb.rd ha.dg hb.dg (by rw [ha.val, hb.val]; omega)).mono (fun _ _ ⟨z, k, c', q, h1, h2, h3, h4, h5, h6, h8, h7⟩ => ⟨z, k, c', q, h1, h2, h4, ⟨h3, h5, h6, by rw [h7, ha.val, hb.val]; omega⟩, h8⟩)
theorem Dn.len {w x n d A y m g B} (ha : Dn w x n d A) (hb : Dn w y m g B) (hle : A ≤ B) : n ≤ m := vd_len ha.dg hb.dg ha.fm (by rw [ha.val, hb.val]; omega)
theorem Dn.setq {w x n d A} {G i : Nat} {u : Value} (h : Dn w x n d A) (hG : ∀ a, x = some a → G < a.block) : Dn (w.setCell ⟨G, i, none⟩ u) x n d A := ⟨h.rd.only ((Only.refl _ _).setCell _ _ _) (fun a ha => by have := hG a ha; omega), h.dg, h.fm, h.val⟩
theorem div_next0 {A V Qv R β : Nat} {k : Nat} (h : A / 2 ^ (k + 1) = Qv * V + R) (hb : A / 2 ^ k % 2 = β) : A / 2 ^ k = 2 * Qv * V + (R + R + β) := by
  have : A / 2 ^ (k + 1) = A / 2 ^ k / 2 := by rw [Nat.pow_succ, Nat.div_div_eq_div_mul]
  have e : 2 * Qv * V = 2 * (Qv * V) := Nat.mul_assoc _ _ _
  omega
theorem div_next1 {A V Qv R β : Nat} {k : Nat} (h : A / 2 ^ (k + 1) = Qv * V + R) (hb : A / 2 ^ k % 2 = β) (hge : V ≤ R + R + β) : A / 2 ^ k = (2 * Qv + 1) * V + (R + R + β - V) := by
  have := div_next0 h hb
  rw [Nat.add_mul, Nat.one_mul]; omega
theorem div_end {A V Q R : Nat} (h : A = Q * V + R) (hR : R < V) : A / V = Q ∧ A % V = R := by
  subst h
  constructor
  · rw [Nat.mul_comm, Nat.mul_add_div (by omega), Nat.div_eq_of_lt hR, Nat.add_zero]
  · rw [Nat.mul_comm, Nat.mul_add_mod, Nat.mod_eq_of_lt hR]

set_option maxRecDepth 100000 in
set_option maxHeartbeats 4000000 in
theorem rdivL_c {w : World} {x : Option Addr} {n c : Nat} {f : Nat → Int} {A : Nat} {y : Option Addr} {m e : Nat} {g : Nat → Int} {V : Nat} (ha : Dn w x n f A) (hb : Dn w y m g V) (hn : n ≤ 8192) (hm : m ≤ 8192) (hV : 0 < V) (hm1 : m ≠ 1) :
    Calls Tryz.prog 142 #[.slice x n c, .slice y m e] w fun e w' => ∃ zq kq cq q zr kr cr r, e = .returned (.tuple #[.slice zq kq cq, .slice zr kr cr]) ∧ Below w.heap.size w w' ∧ Hid (kq ≤ n ∧ kr ≤ m ∧ Dn w' zq kq q (A / V) ∧ Dn w' zr kr r (A % V)) := by
  have HA := hid ha; have HB := hid hb
  clear ha hb
  have hmd : ((m : Int) == 1) = false := by simp; omega
  go_enter Tryz.func142, Tryz.ntmps142
  go_wp2_with (at_make; refine wpList_make_blk .u64 w rfl (.tmp 20) (.tmp 20) 22 rfl 61 8 Tryz.underlying22 Tryz.infoU64 .i64 .i64 n n n rfl rfl rfl rfl (by omega) (by unfold maxLen; omega) ?_; intro wa hba hbela)
  have HAa := hid (HA.out.below hbela); have HBa := hid (HB.out.below hbela)
  have HQ := hid hba; have HW := hid hbela
  clear hba hbela
  refine (rbits_c x n c f _ (by omega) HAa.out.rd HAa.out.dg).mono ?_
  rintro e w1 ⟨B, rfl, ⟨q0, hq⟩, HBt⟩
  have hb := drewN_bel hq
  have HQ1 := hid (HQ.out.below hb HQ.out.lt); have HW1 := hid (HW.out.trans (hb.mono HW.out.size))
  clear hq hb HQ HW HAa HBa
  have hB32 := HBt.out.1
  go_wp2
  go_loopw [7, 8] (fun u t wr => ∃ (k kr cr R Qv : Nat) (z : Option Addr) (d Q : Nat → Int), k ≤ B ∧ t = .int .i64 ((k : Int) - 1) ∧ u = .slice z kr cr ∧ Hid (Below w.heap.size w wr) ∧ Hid (Blk .u64 61 wr w.heap.size n Q) ∧ Hid (Dg Q n) ∧ Hid (Dn wr z kr d R) ∧ Hid (∀ a, z = some a → w.heap.size < a.block) ∧ Hid (R < V) ∧ Hid (vd Q n = ((Qv * 2 ^ k : Nat) : Int)) ∧ Hid (A / 2 ^ k = Qv * V + R)) (fun _ t _ => (intOf t + 1).toNat)
  case atStart =>
    refine ⟨B, 0, 0, 0, 0, none, fun _ => 0, fun _ => 0, by omega, rfl, rfl, HW1.out, HQ1.out, fun j _ => ⟨Int.le_refl 0, show (0 : Int) < 4294967296 by decide⟩, ⟨Rd.zero, fun j hj => by omega, .inl rfl, rfl⟩, (fun a h => by cases h), hV, hid (by rw [vd_zero (fun _ _ => rfl)]; simp), hid ?_⟩
    have h2 := HBt.out.2
    rw [HA.out.val] at h2
    rw [Nat.div_eq_of_lt (by exact_mod_cast h2)]; omega
  case round =>
    clear HQ1 HW1
    obtain ⟨k, kr, cr, R, Qv, z, d, Q, hk, rfl, rfl, HWr, HQr, HDg, HR, HO, HRV, HVq, HVa⟩ := hrel
    have HAr := hid (HA.out.below HWr.out); have HBr := hid (HB.out.below HWr.out)
    have hkr : kr ≤ m := HR.out.len HBr.out (Nat.le_of_lt HRV.out)
    cases k with
    | zero =>
      go_wp2_with fail
      refine (low_c (some ⟨w.heap.size, 0, none⟩) n n Q wr (Nat.le_refl _) (by omega) (HQr.out.rd0 (Nat.le_refl _)) (fun h => by cases h)).mono ?_
      rintro e w2 ⟨rfl, k1, hk1, hz, hfm, rfl⟩
      have HZ2 := hid hz; have HFM := hid hfm
      clear hz hfm
      go_wp2
      go_ret2
      have hA : A = Qv * V + R := by have := HVa.out; simpa using this
      obtain ⟨e1, e2⟩ := div_end hA HRV.out
      refine ⟨_, k1, _, Q, z, kr, cr, d, rfl, HWr.out, hk1, hkr, ⟨(HQr.out.rd0 (Nat.le_refl _)).take hk1, HDg.out.mono hk1, HFM.out, ?_⟩, by rw [e2]; exact HR.out⟩
      rw [trim_vald hk1 HZ2.out, HVq.out, e1]; simp
    | succ k =>
      have hkb : k < 32 * n := by have := HBt.out.1; omega
      obtain ⟨β, hβ⟩ : ∃ β, A / 2 ^ k % 2 = β := ⟨_, rfl⟩
      have hβ1 : β < 2 := by rw [← hβ]; exact Nat.mod_lt _ (by decide)
      have HBe := hid hβ
      have CB := hid (show ∀ W, Below wr.heap.size wr W → Calls Tryz.prog 165 #[.slice x n c, .int .i64 (k : Int)] W fun e w' => e = .returned (.int .u64 (β : Int)) ∧ w' = W from fun W hW => (rbit_c x n c f k W (by omega) (HAr.out.below hW).rd HAr.out.dg hkb).mono (fun e w' ⟨h1, h2⟩ => ⟨by rw [h1, HAr.out.val, ← hβ]; simp, h2⟩))
      clear hβ
      go_wp2_with fail
      refine (dAddO_c HR.out HR.out (by omega) (by omega)).mono ?_
      rintro e w2 ⟨z2, k2, c2, d2, rfl, hb2, H2⟩
      have HB2 := hid hb2
      clear hb2
      go_wp2_with fail
      refine (CB.out _ HB2.out).mono ?_
      rintro e w3 ⟨rfl, rfl⟩
      go_wp2_with fail
      refine (dWord_c (V := β) (by omega)).mono ?_
      rintro e w4 ⟨z4, k4, c4, d4, rfl, hb4, H4⟩
      have HB4 := hid hb4
      clear hb4
      have hk2 := H2.out.1; have hk4 := H4.out.1
      go_wp2_with fail
      refine (dAddO_c (H2.out.2.1.below HB4.out) H4.out.2 (by omega) (by omega)).mono ?_
      rintro e w5 ⟨z5, k5, c5, d5, rfl, hb5, H5⟩
      have HB5 := hid (HB2.out.trans ((HB4.out.mono HB2.out.size).trans (hb5.mono (Nat.le_trans HB2.out.size HB4.out.size))))
      have hk5 := H5.out.1
      have HO5 : Hid (∀ a, z5 = some a → w.heap.size < a.block) := fun a ha => by
        have h1 := H5.out.2.2 a ha; have h2 := HB2.out.size; have h3 := HB4.out.size; have h4 := HQr.out.lt; omega
      clear hb5 HB2 HB4 H2 H4 CB
      go_wp2_with fail
      refine (rcmp_c z5 y k5 m c5 e d5 g _ (by omega) (by omega) H5.out.2.1.rd (HBr.out.below HB5.out).rd H5.out.2.1.dg HBr.out.dg H5.out.2.1.fm HBr.out.fm).mono ?_
      rintro e w6 ⟨⟨q6, hq6⟩, cc, rfl, hord⟩
      have hb6 := drewN_bel hq6
      rw [H5.out.2.1.val, HBr.out.val] at hord
      have HB6 := hid (HB5.out.trans (hb6.mono HB5.out.size)); have H6 := hid (H5.out.2.1.below hb6)
      clear hq6 hb6 HB5 H5
      by_cases hge : V ≤ R + R + β
      · have hsg : decide ((0 : Int) ≤ cc) = true := by
          rcases hord with ⟨h1, h2⟩ | ⟨h1, h2⟩ | ⟨h1, h2⟩ <;> subst h1 <;> first | rfl | (exfalso; omega)
        clear hord
        go_wp2_with fail
        refine (dSubO_c H6.out (HBr.out.below HB6.out) (by omega) (by omega) hge).mono ?_
        rintro e w7 ⟨z7, k7, c7, d7, rfl, hb7, H7⟩
        have HB7 := hid (HB6.out.trans (hb7.mono HB6.out.size))
        have HO7 : Hid (∀ a, z7 = some a → w.heap.size < a.block) := fun a ha => by
          have h1 := H7.out.2.2 a ha; have h2 := HB6.out.size; have h4 := HQr.out.lt; omega
        clear hb7 HB6 H6 hsg
        obtain ⟨j, s, hjs, hs⟩ : ∃ j s, k = 32 * j + s ∧ s ≤ 31 := ⟨k / 32, k % 32, by omega, by omega⟩
        have hj : j < n := by omega
        have HQ7 := hid (HQr.out.below HB7.out HQr.out.lt)
        obtain ⟨u, hu⟩ : ∃ u, Q j = u := ⟨_, rfl⟩
        have hcell := HQ7.out.cell hj
        have hfz := HQ7.out.frozen j
        obtain ⟨u0, u1⟩ := HDg.out j hj
        have hpow : ((Qv * 2 ^ (k + 1) : Nat) : Int) = (Qv : Int) * (2 ^ (s + 1) * pd j) := by
          rw [pd_pow, ← Int.pow_add, hjs, show s + 1 + 32 * j = 32 * j + s + 1 by omega]; simp
        have hroom := bit_room HDg.out hj hs (HVq.out.trans hpow)
        rw [hu] at hcell u0 u1 hroom
        have hp0 := p2_pos s
        have hp1 := p2_le hs
        obtain ⟨P, hP⟩ : ∃ P : Int, 2 ^ s = P := ⟨_, rfl⟩
        rw [hP] at hp0 hp1 hroom
        have z1 : (k : Int) ≤ 67108927 := by omega
        have h3 : Int.tdiv (k : Int) 32 = (j : Int) := by rw [Int.tdiv_eq_ediv_of_nonneg (by omega)]; omega
        have h4 : Int.tmod (k : Int) 32 = (s : Int) := by rw [Int.tmod_eq_emod_of_nonneg (by omega)]; omega
        have h5 : IntKind.u64.wrap (2 ^ s) = P := by rw [hP, IntKind.wrap_u64]; omega
        have h6 : k / 32 = j := by omega
        have h7 : k % 32 = s := by omega
        have h8 : (k : Int) / 32 = (j : Int) := by omega
        have h9 : (k : Int) % 32 = (s : Int) := by omega
        have HU := hid hu; have HP := hid hP; have HJS := hid hjs
        clear hu hP hpow hjs
        go_wp2_with fail
        go_region
        all_goals go_wp2
        go_roundw
        case rel =>
          refine ⟨k, k7, c7, R + R + β - V, 2 * Qv + 1, z7, d7, upd Q j (u + P), by omega, by go_num, rfl, below_only (HWr.out.trans (HB7.out.mono HWr.out.size)) (((Only.refl _ _).setCell _ _ _).drew) (Nat.le_refl _) (Nat.le_trans HWr.out.size HB7.out.size), (HQ7.out.set _ _).drew, HDg.out.upd ⟨by omega, hroom⟩, (H7.out.2.1.setq HO7.out).drew, HO7.out, hid ?_, hid ?_, hid (div_next1 HVa.out HBe.out hge)⟩
          · have := HRV.out; omega
          · rw [vd_upd hj, HVq.out, HU.out, ← HP.out, pd_pow, show u + 2 ^ s - u = (2 : Int) ^ s by omega, ← Int.pow_add, show s + 32 * j = k by have := HJS.out; omega, Nat.pow_succ]
            push_cast
            grind
        case measure => simp [intOf]
      · have hsg : decide ((0 : Int) ≤ cc) = false := by
          rcases hord with ⟨h1, h2⟩ | ⟨h1, h2⟩ | ⟨h1, h2⟩ <;> subst h1 <;> first | rfl | (exfalso; omega)
        clear hord
        go_wp2
        go_roundw
        case rel =>
          refine ⟨k, k5, c5, R + R + β, 2 * Qv, z5, d5, Q, by omega, by go_num, rfl, HWr.out.trans (HB6.out.mono HWr.out.size), HQr.out.below HB6.out HQr.out.lt, HDg.out, H6.out, HO5.out, hid (by omega), hid ?_, hid (div_next0 HVa.out HBe.out)⟩
          rw [HVq.out, Nat.pow_succ]; push_cast; grind
        case measure => simp [intOf]

set_option maxRecDepth 100000 in
set_option maxHeartbeats 2000000 in
theorem rdivS_c {w : World} {x : Option Addr} {n c : Nat} {f : Nat → Int} {A : Nat} {y : Option Addr} {e : Nat} {g : Nat → Int} {V : Nat} (ha : Dn w x n f A) (hb : Dn w y 1 g V) (hn : n ≤ 8192) :
    Calls Tryz.prog 142 #[.slice x n c, .slice y 1 e] w fun e w' => ∃ zq kq cq q zr kr cr r, e = .returned (.tuple #[.slice zq kq cq, .slice zr kr cr]) ∧ Below w.heap.size w w' ∧ Hid (kq ≤ n ∧ kr ≤ 1 ∧ Dn w' zq kq q (A / V) ∧ Dn w' zr kr r (A % V)) := by
  obtain ⟨b, o, rfl⟩ := hb.rd.at (by omega)
  have hcell := hb.rd.cell (j := 0) (by omega)
  obtain ⟨t0, t1⟩ := hb.dg 0 (by omega)
  have hv := hb.val
  have hne : g 0 ≠ 0 := by rcases hb.fm with h | h; omega; exact h
  obtain ⟨t, ht⟩ : ∃ t, g 0 = t := ⟨_, rfl⟩
  have hv1 : vd g 1 = g 0 := by simp [vd, pd]
  rw [hv1] at hv
  rw [ht] at hcell t0 t1 hv hne
  rw [Nat.add_zero] at hcell
  have HA := hid ha; have HV := hid hv
  clear ha hb ht hv hv1
  go_enter Tryz.func142, Tryz.ntmps142
  go_wp2_with fail
  refine (short_c x n c f t _ (by omega) HA.out.rd HA.out.dg (by omega) t1).mono ?_
  rintro e w2 ⟨a1, k1, c1, q, a2, k2, c2, R, rfl, hb2, hk1, hr1, hd1, hf1, hk2, hr2, hx2, hf2, hR0, hR1, hval⟩
  have hq0 := vd_nonneg hd1
  have hres : Hid (k1 ≤ n ∧ k2 ≤ 1 ∧ Dn w2 a1 k1 q (A / V) ∧ Dn w2 a2 k2 (fun _ => R) (A % V)) := by
    obtain ⟨Q, hQ⟩ : ∃ Q : Nat, vd q k1 = Q := ⟨(vd q k1).toNat, by omega⟩
    obtain ⟨r, hr⟩ : ∃ r : Nat, R = r := ⟨R.toNat, by omega⟩
    have e1 : A = Q * V + r := by
      rw [HA.out.val, hQ, hr, HV.out] at hval
      exact_mod_cast hval
    obtain ⟨e2, e3⟩ := div_end e1 (by have := HV.out; omega)
    refine ⟨hk1, hk2, ⟨hr1, hd1, hf1, by rw [hQ, e2]⟩, ⟨hr2, fun j hj => ⟨hR0, by omega⟩, hf2, ?_⟩⟩
    rw [e3]
    rcases (show k2 = 0 ∨ k2 = 1 by omega) with h | h
    · subst h; have := hx2 rfl; simp [vd]; omega
    · subst h; simp [vd, pd]; exact hr
  have HB2 := hid hb2
  clear hb2 hr1 hd1 hf1 hr2 hx2 hf2 hval hq0
  go_wp2
  go_ret2
  exact ⟨a1, k1, c1, q, a2, k2, c2, _, rfl, HB2.out, hres.out⟩

theorem rdiv_c {w : World} {x : Option Addr} {n c : Nat} {f : Nat → Int} {A : Nat} {y : Option Addr} {m e : Nat} {g : Nat → Int} {V : Nat} (ha : Dn w x n f A) (hb : Dn w y m g V) (hn : n ≤ 8192) (hm : m ≤ 8192) (hV : 0 < V) :
    Calls Tryz.prog 142 #[.slice x n c, .slice y m e] w fun e w' => ∃ zq kq cq q zr kr cr r, e = .returned (.tuple #[.slice zq kq cq, .slice zr kr cr]) ∧ Below w.heap.size w w' ∧ Hid (kq ≤ n ∧ kr ≤ m ∧ Dn w' zq kq q (A / V) ∧ Dn w' zr kr r (A % V)) := by
  by_cases h1 : m = 1
  · subst h1; exact rdivS_c ha hb hn
  · exact rdivL_c ha hb hn hm hV h1
end Go.Proofs.YtbindadjepfkcaaGreatDoor
namespace Go.Proofs.YtbindadjepfkcaaGreatDoor
open Go.RowKit

theorem pow_z {z : Int} (z0 : 0 ≤ z) : (2 : Int) ^ (z % 64).toNat * pw (z / 64).toNat = 2 ^ z.toNat := by
  rw [pw_pow, ← Int.pow_add]; congr 1; omega
theorem pow_zd {z : Int} (z0 : 0 ≤ z) : (2 : Int) ^ (z % 32).toNat * pd (z / 32).toNat = 2 ^ z.toNat := by
  rw [pd_pow, ← Int.pow_add]; congr 1; omega

set_option maxRecDepth 100000 in
set_option maxHeartbeats 2000000 in
/-- Shl of the reference: a * 2^(32 * o + s), on digits. -/
theorem rshl_c (ao : Option Addr) (n ca o : Nat) (z s : Int) (f : Nat → Int) (w : World) (hn : n ≤ 1048576) (ho : o ≤ 1048576) (s0 : 0 ≤ s) (s1 : s ≤ 31) (hz : z = 32 * o + s) (hr : Rd .u64 w ao n f) (hf : Dg f n) :
    Calls Tryz.prog 108 #[.slice ao n ca, .int .i64 z] w fun e w' => ∃ ao' k cap' D, e = .returned (.slice ao' k cap') ∧ Below w.heap.size w w' ∧ Rd .u64 w' ao' k D ∧ k ≤ o + n + 1 ∧ Dg D k ∧ Fm D k ∧ vd D k = vd f n * (2 ^ s.toNat * pd o) := by
  have HF := hid hf
  have HRd := hid hr
  clear hf hr
  have z0 : 0 ≤ z := by omega
  have z1 : z ≤ 67108927 := by omega
  have h1 : z / 32 = (o : Int) := by omega
  have h2 : z % 32 = s := by omega
  have h3 : Int.tdiv z 32 = (o : Int) := by rw [Int.tdiv_eq_ediv_of_nonneg z0]; exact h1
  have h4 : Int.tmod z 32 = s := by rw [Int.tmod_eq_emod_of_nonneg z0]; exact h2
  clear hz
  by_cases hn0 : n = 0
  · subst hn0
    go_enter Tryz.func108, Tryz.ntmps108
    go_wp2
    go_ret
    exact ⟨none, 0, 0, f, rfl, Below.refl _ _, Rd.zero, by omega, fun j hj => by omega, .inl rfl, by simp [vd]⟩
  · have hnz : ((n : Int) == 0) = false := by simp; omega
    have p0 : (0 : Int) < 2 ^ s.toNat := Int.pow_pos (by decide)
    have p1 : (2 : Int) ^ s.toNat ≤ 2147483648 := by
      have : (2 : Int) ^ s.toNat * 2 ^ (31 - s).toNat = 2147483648 := by rw [← Int.pow_add, show s.toNat + (31 - s).toNat = 31 by omega]; rfl
      have q0 : (0 : Int) < 2 ^ (31 - s).toNat := Int.pow_pos (by decide)
      have := Int.mul_le_mul_of_nonneg_left (show (1 : Int) ≤ 2 ^ (31 - s).toNat by omega) (Int.le_of_lt p0)
      omega
    have P0 := hid p0
    have P1 := hid p1
    clear p0 p1
    go_enter Tryz.func108, Tryz.ntmps108
    go_wp2_with (at_make; refine wpList_make_two .u64 w rfl (.tmp 13) (.tmp 19) 22 rfl 61 8 Tryz.underlying22 Tryz.infoU64 .i64 .i64 _ _ o (o + n + 1) rfl rfl (by omega) (by omega) (by omega) (by omega) (by unfold maxLen; omega) ?_; intro w1 hb1 hbel1)
    have HO1 := hid (own_of_blk hb1 (base := w.heap.size) (n := o) (Nat.le_refl _) (by omega) (by unfold maxLen; omega))
    clear hb1
    go_loopw [5, 6, 23] (fun v c t wr => ∃ (k : Nat) (cc : Int) (D : Nat → Int), k ≤ n ∧ t = .int .i64 k ∧ c = .int .u64 cc ∧ 0 ≤ cc ∧ cc < 2147483648 ∧ Hid (cc < 2 ^ s.toNat) ∧ Below w.heap.size w wr ∧ Hid (Own .u64 61 wr w.heap.size v (o + k) D) ∧ Hid (Dg D (o + k)) ∧ Hid (vd D (o + k) + cc * pd (o + k) = vd f k * (2 ^ s.toNat * pd o))) (fun _ _ t _ => n - (intOf t).toNat)
    case atStart => exact ⟨0, 0, fun _ => 0, by omega, rfl, rfl, by omega, by omega, P0.out, hbel1, HO1.out, fun j hj => ⟨Int.le_refl 0, show (0 : Int) < 4294967296 by decide⟩, by simp [Hid, vd, vd_zero]⟩
    case round =>
      clear hbel1 HO1
      obtain ⟨k, cc, D, hk, rfl, rfl, c0, c1, HC, hbel, HO, HDg, HV⟩ := hrel
      by_cases hlt : k < n
      · have hrA := HRd.out
        obtain ⟨b, ob, rfl⟩ := hrA.at (by omega)
        obtain ⟨x, hx⟩ : ∃ x, f k = x := ⟨_, rfl⟩
        have hcell : wr.cell? ⟨b, ob + k, none⟩ = some (.int .u64 x) := by rw [← hx]; exact (hrA.below hbel (Nat.le_refl _)).cell hlt
        obtain ⟨x0, x1⟩ := HF.out k hlt
        rw [hx] at x0 x1
        have HX := hid hx
        clear hx hrA
        obtain ⟨d1, d2, d3, d4, d5⟩ := dshl_carry c0 HC.out x0 x1 P0.out
        obtain ⟨X, eX, HXe⟩ : ∃ X, IntKind.u64.wrap (x * 2 ^ s.toNat) = X ∧ Hid (X = x * 2 ^ s.toNat) := ⟨x * 2 ^ s.toNat, by have := P1.out; rw [IntKind.wrap_u64]; omega, rfl⟩
        have X0 : 0 ≤ X := by rw [HXe.out]; exact d4
        have X1 : X < 9223372036854775808 := by have := P1.out; rw [HXe.out]; omega
        have HD3 := hid d3
        clear d1 d2 d3 d4 d5
        go_wp2_with (at_builtin; refine wpList_append_own_list .u64 _ rfl (.tmp 33) (.tmp 36) 22 rfl w.heap.size 61 8 Tryz.underlying22 Tryz.infoU64 _ (o + k) D rfl (Own.alloc HO.out _) wr.heap.size 0 1 1 (fun _ => (cc + X) % 4294967296) rfl (rd_new1 wr _ _) ?c1 ?c2 ?c3 ?_)
        case c1 => unfold maxLen; omega
        case c2 => omega
        case c3 => have := hbel.size; simp; omega
        intro v' w' hown hgr
        have hbel2 : Below w.heap.size w w' := (hbel.alloc hbel.size _).grown hgr (by have := hbel.size; simp; omega) (fun k h => (Own.ge HO.out k h))
        have HO2 := hid hown
        clear hown hgr HO
        go_wp2
        go_roundw
        case rel =>
          refine ⟨k + 1, _, _, by omega, by go_num, rfl, by omega, ?_, ?_, hbel2, HO2.out, dg_cat1 HDg.out (by omega), ?_⟩
          · have h5 := HD3.out; have h6 := P1.out; rw [← HXe.out] at h5; omega
          · have h5 := HD3.out; rw [← HXe.out] at h5; exact h5
          · have h5 := dshl_step HV.out HX.out
            rw [← HXe.out] at h5; exact h5
        case measure => simp [intOf]; omega
      · have hkn : k = n := by omega
        subst hkn
        go_wp2_with (at_builtin; refine wpList_append_own_list .u64 _ rfl (.tmp 41) (.tmp 43) 22 rfl w.heap.size 61 8 Tryz.underlying22 Tryz.infoU64 _ (o + k) D rfl (Own.alloc HO.out _) wr.heap.size 0 1 1 (fun _ => cc) rfl (rd_new1 wr _ _) ?c1 ?c2 ?c3 ?_)
        case c1 => unfold maxLen; omega
        case c2 => omega
        case c3 => have := hbel.size; simp; omega
        intro v' w' hown hgr
        have hbel2 : Below w.heap.size w w' := (hbel.alloc hbel.size _).grown hgr (by have := hbel.size; simp; omega) (fun k h => (Own.ge HO.out k h))
        obtain ⟨ao', cap', hv, hcc, hnn, hml, hrd, hlt3⟩ := Own.shape hown
        unfold maxLen at hml
        subst hv
        clear hown hgr HO hlt3
        go_wp2_with fail
        refine (low_c ao' (o + k + 1) cap' (cat D (o + k) (fun _ => cc)) w' hcc hml hrd hnn).mono ?_
        rintro e w2 ⟨rfl, m', hm1, hz, hfm, rfl⟩
        have HZ := hid hz
        have HFM := hid hfm
        clear hz hfm
        go_wp2
        go_ret
        refine ⟨ao', m', cap', _, rfl, hbel2, hrd.take hm1, by omega, (dg_cat1 HDg.out (by omega)).mono hm1, HFM.out, ?_⟩
        rw [trim_vald hm1 HZ.out, vd_cat1, HV.out]

end Go.Proofs.YtbindadjepfkcaaGreatDoor
namespace Go.Proofs.YtbindadjepfkcaaGreatDoor
open Go.RowKit

theorem two_cop {b : Nat} (h : b % 2 = 1) : Nat.Coprime 2 b := by
  unfold Nat.Coprime
  have h1 : Nat.gcd 2 b ∣ 2 := Nat.gcd_dvd_left _ _
  have h2 : Nat.gcd 2 b ∣ b := Nat.gcd_dvd_right _ _
  have h3 := Nat.le_of_dvd (by decide) h1
  have h4 : Nat.gcd 2 b ≠ 0 := by intro h; rw [h] at h1; simp at h1
  rcases (show Nat.gcd 2 b = 1 ∨ Nat.gcd 2 b = 2 by omega) with h5 | h5
  · exact h5
  · rw [h5] at h2; omega
theorem gcd_half2 {a b : Nat} (ha : a % 2 = 0) (hb : b % 2 = 0) : Nat.gcd a b = Nat.gcd (a / 2) (b / 2) * 2 := by
  rw [← Nat.gcd_mul_right, show a / 2 * 2 = a by omega, show b / 2 * 2 = b by omega]
theorem gcd_halfl {a b : Nat} (ha : a % 2 = 0) (hb : b % 2 = 1) : Nat.gcd (a / 2) b = Nat.gcd a b := by
  have := Nat.Coprime.gcd_mul_left_cancel (a / 2) (two_cop hb)
  rw [show 2 * (a / 2) = a by omega] at this
  exact this.symm
theorem gcd_halfr {a b : Nat} (ha : a % 2 = 1) (hb : b % 2 = 0) : Nat.gcd a (b / 2) = Nat.gcd a b := by
  rw [Nat.gcd_comm, gcd_halfl hb ha, Nat.gcd_comm]
theorem gcd_take {a b : Nat} (h : b ≤ a) : Nat.gcd (a - b) b = Nat.gcd a b := by
  have := Nat.gcd_add_self_left b (a - b)
  rw [Nat.sub_add_cancel h] at this
  exact this.symm
/-- The number that digits in memory tell. -/
noncomputable def dOf (w : World) (v : Value) : Nat := match v with
  | .slice (some a) k _ => (vd (fun j => match w.cell? ⟨a.block, a.off + j, none⟩ with | some (.int _ z) => z | _ => 0) k).toNat
  | _ => 0
theorem Dn.dOf {w x n c d V} (h : Dn w x n d V) : dOf w (.slice x n c) = V := by
  rcases Nat.eq_zero_or_pos n with h0 | h0
  · subst h0
    rw [h.zero]
    cases x <;> rfl
  · obtain ⟨b, o, rfl⟩ := h.rd.at h0
    have e : vd (fun j => match w.cell? ⟨b, o + j, none⟩ with | some (.int _ z) => z | _ => 0) n = vd d n := vd_congr (fun j hj => by
      have := h.rd.cell hj
      simp only [this])
    show (vd _ n).toNat = V
    rw [e, h.val]; simp
/-- The lowest digit tells whether a number is even. -/
theorem Dn.par {w x n d V} (h : Dn w x n d V) (hn : 0 < n) : (d 0 % 2 = 0 ↔ V % 2 = 0) := by
  obtain ⟨m, rfl⟩ : ∃ m, n = m + 1 := ⟨n - 1, by omega⟩
  have h1 := vd_cons d 0 m
  rw [sh_zero, h.val] at h1
  omega
/-- Half of a number, digit by digit. -/
theorem half_step {D f : Nat → Int} {k : Nat} {b0 b b' v : Int} (h : 2 * vd D k = vd f k - b0 + b * pd k) (hv : 2 * v = f k - b + b' * 4294967296) (D' : Nat → Int) (hD : ∀ j, j < k → D' j = D j) (hk : D' k = v) : 2 * vd D' (k + 1) = vd f (k + 1) - b0 + b' * pd (k + 1) := by
  rw [vd_succ, vd_succ, pd_succ, vd_congr hD, hk]
  grind

set_option maxRecDepth 100000 in
set_option maxHeartbeats 2000000 in
theorem rhalf_c {w : World} {x : Option Addr} {n c : Nat} {f : Nat → Int} {A : Nat} (ha : Dn w x n f A) (hn : n ≤ 65536) (hA : A % 2 = 0) (hA0 : 0 < A) :
    Calls Tryz.prog 105 #[.slice x n c] w fun e w' => ∃ z k c' d, e = .returned (.slice z k c') ∧ Below w.heap.size w w' ∧ Hid (k ≤ n ∧ Dn w' z k d (A / 2)) := by
  have hn0 := ha.pos hA0
  have hpar := (ha.par hn0).2 hA
  have HA := hid ha; have HPar := hid hpar
  clear ha hpar
  go_enter Tryz.func105, Tryz.ntmps105
  go_wp2_with (at_make; refine wpList_make_blk .u64 w rfl (.tmp 7) (.tmp 7) 22 rfl 61 8 Tryz.underlying22 Tryz.infoU64 .i64 .i64 n n n rfl rfl rfl rfl (by omega) (by unfold maxLen; omega) ?_; intro wa hba hbela)
  go_loopw [11] (fun t wr => ∃ (k : Nat) (Q : Nat → Int), k ≤ n ∧ t = .int .i64 k ∧ Below w.heap.size w wr ∧ Blk .u64 61 wr w.heap.size n Q ∧ Hid (Dg Q n) ∧ Hid (2 * vd Q k = vd f k - f 0 % 2 + (ext f n k % 2) * pd k)) (fun t _ => n - (intOf t).toNat)
  case atStart => exact ⟨0, fun _ => 0, by omega, rfl, hbela, hba, fun j _ => ⟨Int.le_refl 0, show (0 : Int) < 4294967296 by decide⟩, hid (by rw [ext_in _ _ _ hn0]; simp [vd, pd]; omega)⟩
  case round =>
    clear hba hbela
    obtain ⟨k, Q, hk, rfl, hbel, hbl, HDg, HV⟩ := hrel
    by_cases hlt : k < n
    · have hr := HA.out.rd
      obtain ⟨b, o, rfl⟩ := hr.at (by omega)
      obtain ⟨y, hy⟩ : ∃ y, f k = y := ⟨_, rfl⟩
      have hcell : wr.cell? ⟨b, o + k, none⟩ = some (.int .u64 y) := by rw [← hy]; exact (hr.below hbel (Nat.le_refl _)).cell hlt
      obtain ⟨y0, y1⟩ := HA.out.dg k hlt
      rw [hy] at y0 y1
      have hcz := hbl.cell (j := k) hlt
      have hfz := hbl.frozen k
      have hbb : b ≠ w.heap.size := by have := hr.und (by omega) _ rfl; simp at this; omega
      have HX := hid (show ext f n k = y from (ext_in _ _ _ hlt).trans hy)
      have HY := hid hy
      by_cases hlt2 : k + 1 < n
      · obtain ⟨u, hu⟩ : ∃ u, f (k + 1) = u := ⟨_, rfl⟩
        have hcelu : wr.cell? ⟨b, o + (k + 1), none⟩ = some (.int .u64 u) := by rw [← hu]; exact (hr.below hbel (Nat.le_refl _)).cell hlt2
        obtain ⟨u0, u1⟩ := HA.out.dg (k + 1) hlt2
        rw [hu] at u0 u1
        have HU := hid (show ext f n (k + 1) = u from (ext_in _ _ _ hlt2).trans hu)
        obtain ⟨s, hs⟩ : ∃ s, y / 2 + u % 2 * 2147483648 = s := ⟨_, rfl⟩
        have hst := half_step (D' := upd (upd Q k (y / 2)) k s) (v := s) (b' := u % 2) HV.out (by rw [HX.out, hy]; omega) (fun j hj => by rw [upd_other _ _ _ _ (by omega), upd_other _ _ _ _ (by omega)]) (upd_same _ _ _)
        have HSt := hid hst; have HS := hid hs
        have hbl2 := hbl.set k (y / 2)
        have hcz2 := hbl2.cell (j := k) hlt
        rw [upd_same] at hcz2
        have hfz2 := hbl2.frozen k
        have hcu2 : (wr.setCell ⟨w.heap.size, k, none⟩ (.int .u64 (y / 2))).cell? ⟨b, o + (k + 1), none⟩ = some (.int .u64 u) := by
          rw [World.cell?_setCell_other _ _ _ _ (fun he => hbb (congrArg Addr.block he).symm)]; exact hcelu
        have HBl := hid hbl2
        clear hst hy hu hr hbl2 hs
        go_wp2_with fail
        go_region
        all_goals go_wp2
        go_roundw
        case rel =>
          refine ⟨k + 1, _, by omega, by go_num, ?_, (HBl.out.set _ _).drew, (HDg.out.upd ⟨?_, ?_⟩).upd ⟨?_, ?_⟩, hid ?_⟩
          · exact below_only hbel ((((Only.refl _ _).setCell _ _ _).setCell _ _ _).drew) (Nat.le_refl _) hbel.size
          · omega
          · omega
          · omega
          · omega
          · rw [HU.out]; have e := HSt.out; rw [← HS.out] at e; exact e
        case measure => simp [intOf]; omega
      · have HU := hid (show ext f n (k + 1) = 0 from ext_out _ _ _ (by omega))
        have hst := half_step (D' := upd Q k (y / 2)) (v := y / 2) (b' := 0) HV.out (by rw [HX.out, hy]; omega) (fun j hj => by rw [upd_other _ _ _ _ (by omega)]) (upd_same _ _ _)
        have HSt := hid hst
        clear hst hy hr
        go_wp2
        go_roundw
        case rel =>
          refine ⟨k + 1, _, by omega, by go_num, ?_, hbl.set _ _, HDg.out.upd ⟨?_, ?_⟩, hid ?_⟩
          · exact below_only hbel ((Only.refl _ _).setCell _ _ _) (Nat.le_refl _) hbel.size
          · omega
          · omega
          · rw [HU.out]; exact HSt.out
        case measure => simp [intOf]; omega
    · obtain rfl : k = n := by omega
      go_wp2_with fail
      refine (low_c (some ⟨w.heap.size, 0, none⟩) k k Q wr (Nat.le_refl _) (by omega) (hbl.rd0 (Nat.le_refl _)) (fun h => by cases h)).mono ?_
      rintro e w2 ⟨rfl, k1, hk1, hz, hfm, rfl⟩
      have HZ2 := hid hz; have HFM := hid hfm
      clear hz hfm
      go_wp2
      go_ret
      refine ⟨_, k1, _, Q, rfl, hbel, hk1, (hbl.rd0 (Nat.le_refl _)).take hk1, HDg.out.mono hk1, HFM.out, ?_⟩
      rw [trim_vald hk1 HZ2.out]
      have h1 := HV.out
      rw [ext_out _ _ _ (Nat.le_refl _), HPar.out, HA.out.val] at h1
      omega
end Go.Proofs.YtbindadjepfkcaaGreatDoor
namespace Go.Proofs.YtbindadjepfkcaaGreatDoor
open Go.RowKit

theorem twos_few {w x n d A} {a k : Nat} (h : Dn w x n d A) (ha : a * 2 ^ k = A) (h0 : 0 < a) : k < 32 * n := by
  have h1 := vd_lt h.dg
  rw [h.val, pd_pow] at h1
  have h2 : A < 2 ^ (32 * n) := by exact_mod_cast h1
  apply Nat.lt_of_not_le; intro hge
  have h3 : 2 ^ (32 * n) ≤ 2 ^ k := Nat.pow_le_pow_right (by decide) hge
  have h4 : 1 * 2 ^ k ≤ a * 2 ^ k := Nat.mul_le_mul_right _ h0
  omega
theorem half_half {a k A : Nat} (h : a * 2 ^ k = A) (ha : a % 2 = 0) : a / 2 * 2 ^ (k + 1) = A := by
  rw [Nat.pow_succ, ← h]
  have : a = a / 2 * 2 := by omega
  generalize a / 2 = u at *
  subst this
  rw [Nat.mul_assoc, Nat.mul_comm (2 ^ k) 2]
theorem par_dec {z : Int} {v : Nat} (h : (z % 2 = 0 ↔ v % 2 = 0)) (hv : v % 2 = 1) : ¬ (z % 2 = 0) := fun e => by have := h.1 e; omega

set_option maxRecDepth 100000 in
set_option maxHeartbeats 8000000 in
theorem rgcd_c {w : World} {x : Option Addr} {n c : Nat} {f : Nat → Int} {A : Nat} {y : Option Addr} {m e : Nat} {g : Nat → Int} {B : Nat} (ha : Dn w x n f A) (hb : Dn w y m g B) (hn : n ≤ 8192) (hm : m ≤ 8192) :
    Calls Tryz.prog 73 #[.slice x n c, .slice y m e] w fun e w' => ∃ z k c' d, e = .returned (.slice z k c') ∧ Below w.heap.size w w' ∧ Hid (k ≤ n + m ∧ Dn w' z k d (Nat.gcd A B)) := by
  by_cases hn0 : n = 0
  · subst hn0
    have hA := ha.zero
    have HB := hid hb; have HA0 := hid hA
    clear ha hb hA
    go_enter Tryz.func73, Tryz.ntmps73
    go_wp2
    go_ret
    exact ⟨y, m, e, g, rfl, Below.refl _ _, by omega, by rw [HA0.out, Nat.gcd_zero_left]; exact HB.out⟩
  by_cases hm0 : m = 0
  · subst hm0
    have hB := hb.zero
    have HA := hid ha; have HB0 := hid hB
    have hnd : ((n : Int) == 0) = false := by simp; omega
    clear ha hb hB
    go_enter Tryz.func73, Tryz.ntmps73
    go_wp2
    go_ret
    exact ⟨x, n, c, f, rfl, Below.refl _ _, by omega, by rw [HB0.out, Nat.gcd_zero_right]; exact HA.out⟩
  have hnd : ((n : Int) == 0) = false := by simp; omega
  have hmd : ((m : Int) == 0) = false := by simp; omega
  have HAp := hid (ha.pos' (by omega)); have HBp := hid (hb.pos' (by omega))
  have HA := hid ha; have HB := hid hb
  clear ha hb
  go_enter Tryz.func73, Tryz.ntmps73
  go_wp2
  go_loopw [0, 1, 5] (fun u v t wr => ∃ (za : Option Addr) (na ca a : Nat) (fa : Nat → Int) (zb : Option Addr) (nb cb b : Nat) (fb : Nat → Int) (k : Nat), u = .slice za na ca ∧ v = .slice zb nb cb ∧ t = .int .i64 (k : Int) ∧ na ≤ n ∧ nb ≤ m ∧ k ≤ 32 * n ∧ Hid (Below w.heap.size w wr) ∧ Hid (Dn wr za na fa a) ∧ Hid (Dn wr zb nb fb b) ∧ Hid (0 < a ∧ 0 < b ∧ a * 2 ^ k = A ∧ Nat.gcd a b * 2 ^ k = Nat.gcd A B)) (fun _ _ t _ => 32 * n + 1 - (intOf t).toNat)
  case atStart => exact ⟨x, n, c, A, f, y, m, e, B, g, 0, rfl, rfl, rfl, by omega, by omega, by omega, Below.refl _ _, HA.out, HB.out, HAp.out, HBp.out, by simp, by simp⟩
  case round =>
    obtain ⟨za, na, ca, a, fa, zb, nb, cb, b, fb, k, rfl, rfl, rfl, hna, hnb, hk, HW, HDa, HDb, HV⟩ := hrel
    have hna0 := HDa.out.pos HV.out.1
    have hnb0 := HDb.out.pos HV.out.2.1
    have hkk := twos_few HA.out HV.out.2.2.1 HV.out.1
    obtain ⟨ba, oa, rfl⟩ := HDa.out.rd.at hna0
    obtain ⟨bb, ob, rfl⟩ := HDb.out.rd.at hnb0
    have hca := HDa.out.rd.cell hna0
    have hcb := HDb.out.rd.cell hnb0
    obtain ⟨xa, hxa⟩ : ∃ t, fa 0 = t := ⟨_, rfl⟩
    obtain ⟨xb, hxb⟩ : ∃ t, fb 0 = t := ⟨_, rfl⟩
    obtain ⟨xa0, xa1⟩ := HDa.out.dg 0 hna0
    obtain ⟨xb0, xb1⟩ := HDb.out.dg 0 hnb0
    have hpa := HDa.out.par hna0
    have hpb := HDb.out.par hnb0
    rw [hxa] at hca xa0 xa1 hpa
    rw [hxb] at hcb xb0 xb1 hpb
    rw [Nat.add_zero] at hca hcb
    clear hxa hxb
    by_cases hev : a % 2 = 0 ∧ b % 2 = 0
    · have hea : xa % 2 = 0 := hpa.2 hev.1
      have heb : xb % 2 = 0 := hpb.2 hev.2
      have HE := hid hev
      clear hev hpa hpb
      go_wp2_with fail
      refine (rhalf_c HDa.out (by omega) HE.out.1 HV.out.1).mono ?_
      rintro e w2 ⟨z2, k2, c2, d2, rfl, hb2, H2⟩
      have HB2 := hid hb2
      clear hb2
      go_wp2_with fail
      refine (rhalf_c (HDb.out.below HB2.out) (by omega) HE.out.2 HV.out.2.1).mono ?_
      rintro e w3 ⟨z3, k3, c3, d3, rfl, hb3, H3⟩
      have HB3 := hid hb3
      have hk2 := H2.out.1; have hk3 := H3.out.1
      clear hb3
      go_wp2
      go_roundw
      case rel =>
        refine ⟨z2, k2, c2, a / 2, d2, z3, k3, c3, b / 2, d3, k + 1, rfl, rfl, by go_num, by omega, by omega, by omega, HW.out.trans ((HB2.out.trans (HB3.out.mono HB2.out.size)).mono HW.out.size), H2.out.2.below HB3.out, H3.out.2, ?_, ?_, half_half HV.out.2.2.1 HE.out.1, ?_⟩
        · have := HE.out; have := HV.out.1; omega
        · have := HE.out; have := HV.out.2.1; omega
        · rw [← HV.out.2.2.2, gcd_half2 HE.out.1 HE.out.2, Nat.pow_succ, Nat.mul_assoc, Nat.mul_comm 2 (2 ^ k)]
      case measure => simp [intOf]; omega
    · have hodd : a % 2 = 1 ∨ b % 2 = 1 := by omega
      have HOd := hid hodd
      have hcase : (xa % 2 == 0) = false ∨ (xa % 2 = 0 ∧ (xb % 2 == 0) = false) := by
        by_cases h1 : xa % 2 = 0
        · right; refine ⟨h1, by simp; intro h2; exact hev ⟨hpa.1 h1, hpb.1 h2⟩⟩
        · exact .inl (by simp; exact h1)
      obtain ⟨g0, hg0⟩ : ∃ g0, Nat.gcd a b = g0 := ⟨_, rfl⟩
      have HG0 := hid hg0; have HG1 : Hid (g0 * 2 ^ k = Nat.gcd A B) := by rw [← hg0]; exact HV.out.2.2.2
      clear hev hpa hpb hodd hg0
      rcases hcase with hcd | ⟨hcd, hcd2⟩
      all_goals
        go_wp2
        go_loopw [0, 1] (fun u v wr => ∃ (za : Option Addr) (na ca a : Nat) (fa : Nat → Int) (zb : Option Addr) (nb cb b : Nat) (fb : Nat → Int), u = .slice za na ca ∧ v = .slice zb nb cb ∧ na ≤ n + m ∧ nb ≤ n + m ∧ Hid (Below w.heap.size w wr) ∧ Hid (Dn wr za na fa a) ∧ Hid (Dn wr zb nb fb b) ∧ Hid (0 < b ∧ (a % 2 = 1 ∨ b % 2 = 1) ∧ Nat.gcd a b = g0)) (fun u v wr => dOf wr u + dOf wr v)
        case atStart => exact ⟨_, na, ca, a, fa, _, nb, cb, b, fb, rfl, rfl, by omega, by omega, HW.out, HDa.out, HDb.out, HV.out.2.1, HOd.out, HG0.out⟩
        case round =>
          clear hcd HDa HDb HW hca hcb HOd HG0 HV
          obtain ⟨za, na, ca, a, fa, zb, nb, cb, b, fb, rfl, rfl, hna, hnb, HW, HDa, HDb, HV⟩ := hrel
          obtain ⟨wr1, hwr⟩ : ∃ x : World, x = wr := ⟨wr, rfl⟩; subst hwr
          by_cases hz : na = 0
          · subst hz
            have ha0 := HDa.out.zero
            have hbg : b = g0 := by have := HV.out.2.2; rw [ha0, Nat.gcd_zero_left] at this; exact this
            have HBG := hid hbg
            clear ha0 hbg
            go_wp2_with fail
            refine (rshl_c zb nb cb (k / 32) k ((k % 32 : Nat) : Int) fb _ (by omega) (by omega) (by omega) (by omega) (by omega) HDb.out.rd HDb.out.dg).mono ?_
            rintro e w9 ⟨z9, k9, c9, d9, rfl, hb9, hr9, hk9, hd9, hf9, hv9⟩
            have hdn : Dn w9 z9 k9 d9 (Nat.gcd A B) := ⟨hr9, hd9, hf9, by
              rw [hv9, HDb.out.val, HBG.out, ← HG1.out, pd_pow, ← Int.pow_add, show ((k % 32 : Nat) : Int).toNat + 32 * (k / 32) = k by omega]
              simp⟩
            have hle := hdn.len (HA.out.below (HW.out.trans (hb9.mono HW.out.size))) (Nat.le_of_dvd HAp.out (Nat.gcd_dvd_left _ _))
            have H9 := hid hdn; have HB9 := hid hb9
            clear hdn hb9 hr9 hd9 hf9 hv9
            go_wp2
            go_ret
            exact ⟨z9, k9, c9, d9, rfl, HW.out.trans (HB9.out.mono HW.out.size), by omega, H9.out⟩
          · have hz0 : 0 < na := by omega
            have hzd : decide (0 < na) = true := decide_eq_true hz0
            have ha0 := HDa.out.pos' (by omega)
            have HA0 := hid ha0
            clear ha0
            go_wp2
            go_loopw [0] (fun u wr => ∃ (zc : Option Addr) (nc cc c : Nat) (fc : Nat → Int), u = .slice zc nc cc ∧ nc ≤ n + m ∧ Hid (Below wr1.heap.size wr1 wr) ∧ Hid (Dn wr zc nc fc c) ∧ Hid (0 < c ∧ c ≤ a ∧ (c % 2 = 1 ∨ b % 2 = 1) ∧ Nat.gcd c b = g0)) (fun u wr => dOf wr u)
            case atStart => exact ⟨za, na, ca, a, fa, rfl, hna, Below.refl _ _, HDa.out, HA0.out, Nat.le_refl _, HV.out.2⟩
            case round =>
              obtain ⟨zc, nc, cc, c, fc, rfl, hnc, HW2, HDc, HV2⟩ := hrel
              obtain ⟨wr2, hwr⟩ : ∃ x : World, x = wr := ⟨wr, rfl⟩; subst hwr
              have hnc0 := HDc.out.pos HV2.out.1
              obtain ⟨bc, oc, rfl⟩ := HDc.out.rd.at hnc0
              have hcc := HDc.out.rd.cell hnc0
              obtain ⟨xc, hxc⟩ : ∃ t, fc 0 = t := ⟨_, rfl⟩
              obtain ⟨xc0, xc1⟩ := HDc.out.dg 0 hnc0
              have hpc := HDc.out.par hnc0
              rw [hxc] at hcc xc0 xc1 hpc
              rw [Nat.add_zero] at hcc
              clear hxc
              by_cases hec : c % 2 = 0
              · have hec' : xc % 2 = 0 := hpc.2 hec
                have HE := hid hec
                clear hec hpc
                go_wp2_with fail
                refine (rhalf_c HDc.out (by omega) HE.out HV2.out.1).mono ?_
                rintro e w4 ⟨z4, k4, c4, d4, rfl, hb4, H4⟩
                have HB4 := hid hb4
                have hk4 := H4.out.1
                clear hb4
                go_wp2
                go_roundw
                case rel =>
                  have h1 := HV2.out.1; have h2 := HV2.out.2.1; have h3 := HE.out; have h4 := HV2.out.2.2.1
                  exact ⟨z4, k4, c4, c / 2, d4, rfl, by omega, HW2.out.trans (HB4.out.mono HW2.out.size), H4.out.2, by omega, by omega, by omega, (gcd_halfl h3 (by omega)).trans HV2.out.2.2.2⟩
                case measure =>
                  show dOf w4 (.slice z4 k4 c4) < dOf wr2 (.slice _ nc cc)
                  rw [H4.out.2.dOf, HDc.out.dOf]
                  have := HV2.out.1; omega
              · have hec' : (xc % 2 == 0) = false := by simp; intro h; exact hec (hpc.1 h)
                have HE := hid (show c % 2 = 1 by omega)
                clear hec hpc
                have HDb2 := hid (HDb.out.below HW2.out)
                go_wp2
                go_loopw [1] (fun v wr => ∃ (ze : Option Addr) (ne ce e : Nat) (fe : Nat → Int), v = .slice ze ne ce ∧ ne ≤ n + m ∧ Hid (Below wr2.heap.size wr2 wr) ∧ Hid (Dn wr ze ne fe e) ∧ Hid (0 < e ∧ e ≤ b ∧ Nat.gcd c e = g0)) (fun v wr => dOf wr v)
                case atStart => exact ⟨zb, nb, cb, b, fb, rfl, hnb, Below.refl _ _, HDb2.out, HV.out.1, Nat.le_refl _, HV2.out.2.2.2⟩
                case round =>
                  obtain ⟨ze, ne, ce, e', fe, rfl, hne, HW3, HDe, HV3⟩ := hrel
                  obtain ⟨wr3, hwr⟩ : ∃ x : World, x = wr := ⟨wr, rfl⟩; subst hwr
                  have hne0 := HDe.out.pos HV3.out.1
                  obtain ⟨be, oe, rfl⟩ := HDe.out.rd.at hne0
                  have hce := HDe.out.rd.cell hne0
                  obtain ⟨xe, hxe⟩ : ∃ t, fe 0 = t := ⟨_, rfl⟩
                  obtain ⟨xe0, xe1⟩ := HDe.out.dg 0 hne0
                  have hpe := HDe.out.par hne0
                  rw [hxe] at hce xe0 xe1 hpe
                  rw [Nat.add_zero] at hce
                  clear hxe hcc
                  by_cases hee : e' % 2 = 0
                  · have hee' : xe % 2 = 0 := hpe.2 hee
                    have HEe := hid hee
                    clear hee hpe
                    go_wp2_with fail
                    refine (rhalf_c HDe.out (by omega) HEe.out HV3.out.1).mono ?_
                    rintro e w5 ⟨z5, k5, c5, d5, rfl, hb5, H5⟩
                    have HB5 := hid hb5
                    have hk5 := H5.out.1
                    clear hb5
                    go_wp2
                    go_roundw
                    case rel =>
                      have h1 := HV3.out.1; have h2 := HV3.out.2.1; have h3 := HEe.out
                      exact ⟨z5, k5, c5, e' / 2, d5, rfl, by omega, HW3.out.trans (HB5.out.mono HW3.out.size), H5.out.2, by omega, by omega, (gcd_halfr HE.out h3).trans HV3.out.2.2⟩
                    case measure =>
                      show dOf w5 (.slice z5 k5 c5) < dOf wr3 (.slice _ ne ce)
                      rw [H5.out.2.dOf, HDe.out.dOf]
                      have := HV3.out.1; omega
                  · have hee' : (xe % 2 == 0) = false := by simp; intro h; exact hee (hpe.1 h)
                    have HEe := hid (show e' % 2 = 1 by omega)
                    clear hee hpe
                    have HDc3 := hid (HDc.out.below HW3.out)
                    have HWs := hid (HW.out.trans ((HW2.out.trans (HW3.out.mono HW2.out.size)).mono HW.out.size))
                    go_wp2_with fail
                    refine (rcmp_c _ _ nc ne cc ce fc fe _ (by omega) (by omega) HDc3.out.rd HDe.out.rd HDc3.out.dg HDe.out.dg HDc3.out.fm HDe.out.fm).mono ?_
                    rintro e w6 ⟨⟨q6, hq6⟩, c6, rfl, hord⟩
                    have hb6 := drewN_bel hq6
                    rw [HDc3.out.val, HDe.out.val] at hord
                    have HDc6 := hid (HDc3.out.below hb6); have HDe6 := hid (HDe.out.below hb6); have HW6 := hid (HWs.out.trans (hb6.mono HWs.out.size))
                    clear hq6 hb6
                    by_cases hlt : c < e'
                    · have hsg : decide (c6 < 0) = true := by
                        rcases hord with ⟨h1, h2⟩ | ⟨h1, h2⟩ | ⟨h1, h2⟩ <;> subst h1 <;> first | rfl | (exfalso; omega)
                      clear hord
                      go_wp2_with fail
                      refine (dSubO_c HDe6.out HDc6.out (by omega) (by omega) (by omega)).mono ?_
                      rintro e w7 ⟨z7, k7, c7, d7, rfl, hb7, H7⟩
                      have HB7 := hid hb7
                      have hk7 := H7.out.1
                      clear hb7 hsg
                      go_wp2
                      go_roundw
                      case rel =>
                        refine ⟨z7, k7, c7, e' - c, d7, _, nc, cc, c, fc, rfl, rfl, by omega, hnc, HW6.out.trans (HB7.out.mono HW6.out.size), H7.out.2.1, HDc6.out.below HB7.out, HV2.out.1, .inr HE.out, ?_⟩
                        rw [gcd_take (by omega), Nat.gcd_comm]; exact HV3.out.2.2
                      case measure =>
                        show dOf w7 (.slice z7 k7 c7) + dOf w7 (.slice _ nc cc) < dOf wr1 (.slice za na ca) + dOf wr1 (.slice zb nb cb)
                        rw [H7.out.2.1.dOf, (HDc6.out.below HB7.out).dOf, HDa.out.dOf, HDb.out.dOf]
                        have h1 := HV2.out; have h2 := HV3.out; omega
                    · have hsg : decide (c6 < 0) = false := by
                        rcases hord with ⟨h1, h2⟩ | ⟨h1, h2⟩ | ⟨h1, h2⟩ <;> subst h1 <;> first | rfl | (exfalso; omega)
                      clear hord
                      go_wp2_with fail
                      refine (dSubO_c HDc6.out HDe6.out (by omega) (by omega) (by omega)).mono ?_
                      rintro e w7 ⟨z7, k7, c7, d7, rfl, hb7, H7⟩
                      have HB7 := hid hb7
                      have hk7 := H7.out.1
                      clear hb7 hsg
                      go_wp2
                      go_roundw
                      case rel =>
                        refine ⟨z7, k7, c7, c - e', d7, _, ne, ce, e', fe, rfl, rfl, by omega, hne, HW6.out.trans (HB7.out.mono HW6.out.size), H7.out.2.1, HDe6.out.below HB7.out, HV3.out.1, .inr HEe.out, ?_⟩
                        rw [gcd_take (by omega)]; exact HV3.out.2.2
                      case measure =>
                        show dOf w7 (.slice z7 k7 c7) + dOf w7 (.slice _ ne ce) < dOf wr1 (.slice za na ca) + dOf wr1 (.slice zb nb cb)
                        rw [H7.out.2.1.dOf, (HDe6.out.below HB7.out).dOf, HDa.out.dOf, HDb.out.dOf]
                        have h1 := HV2.out; have h2 := HV3.out; omega
end Go.Proofs.YtbindadjepfkcaaGreatDoor
namespace Go.Proofs.YtbindadjepfkcaaGreatDoor
open Go.RowKit

theorem fromD_c {w : World} {ao : Option Addr} {n cap : Nat} {f : Nat → Int} (hn : n ≤ 4096) (hr : Rd .u64 w ao n f) (hf : Lm f n) :
    Calls Tryz.prog 74 #[.slice ao n cap] w fun e w' => ∃ z k c d, e = .returned (.slice z k c) ∧ Below w.heap.size w w' ∧ Hid (k ≤ 2 * n ∧ Dn w' z k d (vf f n).toNat) :=
  (from_c ao n cap f w (by omega) hr hf).mono (fun _ _ ⟨z, k, c, h1, h2, h3, h4, _, h5, h6, h7⟩ => ⟨z, k, c, _, h1, h2, h4, h3, h5, h6, by rw [h7]; have := vf_nonneg hf; omega⟩)
theorem toL_c {w : World} {z : Option Addr} {k c : Nat} {d : Nat → Int} {V : Nat} (h : Dn w z k d V) (hk : k ≤ 65536) :
    Calls Tryz.prog 87 #[.slice z k c] w fun e w' => ∃ x n c' f, e = .returned (.slice x n c') ∧ Below w.heap.size w w' ∧ Hid (n ≤ k ∧ Rd .u64 w' x n f ∧ Lm f n ∧ Fm f n ∧ vf f n = V) :=
  (to_c z k c d w (by omega) h.rd h.dg h.fm).mono (fun _ _ ⟨x, n, c', f, h1, h2, h3, h4, h5, h6, h7⟩ => ⟨x, n, c', f, h1, h2, h4, h3, h5, h6, by rw [h7, h.val]⟩)

end Go.Proofs.YtbindadjepfkcaaGreatDoor
namespace Go.Proofs.YtbindadjepfkcaaGreatDoor
open Go.RowKit

set_option maxHeartbeats 1000000 in
theorem zText_c (s : Bool) (ao : Option Addr) (n cap : Nat) (d : Nat → Int) (V : Nat) (w : World) (hn : n ≤ 8192) (hr : Rd .u64 w ao n d) (hd : Dg d n) (hf : Fm d n) (hV : vd d n = V) (hsz : (Lib.decDigits V).length ≤ 1000000) :
    Calls Tryz.prog 129 #[.agg #[.bool s, .slice ao n cap]] w fun e w' => e = .returned (.string (if s then ⟨#[45]⟩ ++ ⟨(Lib.decDigits V).toArray⟩ else ⟨(Lib.decDigits V).toArray⟩)) ∧ Below w.heap.size w w' := by
  have C := hid (fun W hr' => rtext_c ao n cap d V W hn hr' hd hf hV)
  have HR := hid hr
  have hsz2 : (⟨(Lib.decDigits V).toArray⟩ : ByteArray).size ≤ 1000000 := by show ((Lib.decDigits V).toArray).size ≤ _; rw [List.size_toArray]; exact hsz
  generalize (⟨(Lib.decDigits V).toArray⟩ : ByteArray) = t at *
  clear hr hd hf hV hsz
  cases s
  all_goals
    go_enter Tryz.func129, Tryz.ntmps129
    go_wp2_with fail
    refine (C.out _ (HR.out.alloc _)).mono ?_
    rintro e w1 ⟨rfl, hb⟩
    obtain ⟨_, _, hw⟩ := boxes1 hb
    have HW := hid hw
    clear hb hw
    go_wp2
    go_ret
    exact ⟨rfl, HW.out⟩

/-- What the reference's Read leaves. -/
def ZRead (w w' : World) (L : Nat) (b : Nat → Nat) (t : Bool) (x : Option Addr) (m : Nat) (d : Nat → Int) (ok : Bool) : Prop :=
  Below w.heap.size w w' ∧ Rd .u64 w' x m d ∧ m ≤ L ∧ Dg d m ∧ Fm d m ∧ (∀ a, x = some a → w.heap.size ≤ a.block) ∧
  (ok = true ↔ (0 < L ∧ b 0 = 45 ∧ IsNum (bsh b 1) (L - 1) ∧ 0 < dn (bsh b 1) (L - 1)) ∨ (¬ (0 < L ∧ b 0 = 45) ∧ IsNum b L)) ∧
  (ok = true → (t = true ∧ 0 < L ∧ b 0 = 45 ∧ 0 < m ∧ vd d m = (dn (bsh b 1) (L - 1) : Nat)) ∨ (t = false ∧ ¬ (0 < L ∧ b 0 = 45) ∧ vd d m = (dn b L : Nat)))

set_option maxHeartbeats 2000000 in
theorem zRead_c (s : ByteArray) (L : Nat) (b : Nat → Nat) (w : World) (hs : Sb s L b) (hL : L ≤ 1048576) :
    Calls Tryz.prog 134 #[.string s] w fun e w' => ∃ t x m c d ok, e = .returned (.tuple #[.agg #[.bool t, .slice x m c], .bool ok]) ∧ ZRead w w' L b t x m d ok := by
  have hsz := hs.1
  subst hsz
  by_cases hmn : 0 < s.size ∧ b 0 = 45
  · obtain ⟨h0, h1⟩ := hmn
    have hc : (s[0]'h0).toNat = 45 := by rw [hs.2 0 h0]; exact h1
    have d0 : decide ((0 : Int) < (s.size : Int)) = true := by simp; omega
    have HSb := hid (hs.drop (c := 1) h0); have H1 := hid h1
    clear hs h1
    go_enter Tryz.func134, Tryz.ntmps134
    go_wp2_with fail
    refine (rread_c (s.extract 1 s.size) (s.size - 1) (bsh b 1) _ HSb.out (by omega)).mono ?_
    rintro e w1 ⟨x, m, c, d, rfl, hans⟩
    obtain ⟨⟨hz, z0, z1⟩, zf, hw⟩ := boxes1 hans.1
    have HAns := hid hans; have HW := hid hw
    obtain ⟨R, hR⟩ : ∃ R, numB (bsh b 1) (s.size - 1) = R := ⟨_, rfl⟩
    rw [hR]
    have hml : m ≤ s.size - 1 := hans.2.2.1
    have HRe := hid hR
    clear hans hw hR
    have hT : ∀ u v, Turned w.heap.size (w.heap.size + 1) w1 ((w1.setCell ⟨w.heap.size, 0, none⟩ u).setCell ⟨w.heap.size, 1, none⟩ v) := fun u v => ((Turned.refl _ _ _).set (by first | omega | (simp; done) | (simp; omega)) (by first | omega | (simp; done) | (simp; omega)) _).set (by first | omega | (simp; done) | (simp; omega)) (by first | omega | (simp; done) | (simp; omega)) _
    have HT := hid hT
    clear hT
    have fin : ∀ ok : Bool, (ok = (R && decide (0 < m))) → ZRead w ((w1.setCell ⟨w.heap.size, 0, none⟩ (.bool true)).setCell ⟨w.heap.size, 1, none⟩ (.slice x m c)) s.size b true x m d ok := by
      intro ok hok
      obtain ⟨a1, a2, a3, a4, a5, a6, a7⟩ := HAns.out
      have hR := HRe.out
      have hnew : ∀ a, x = some a → w.heap.size + 1 ≤ a.block := fun a ha => by have := a7 a ha; simpa using this
      have hval : R = true → vd d m = (dn (bsh b 1) (s.size - 1) : Nat) := fun h => a6 (by rw [hR]; exact h)
      have hnum : R = true ↔ IsNum (bsh b 1) (s.size - 1) := by rw [← hR]; exact numB_iff _ _
      have hpos : R = true → (0 < m ↔ 0 < dn (bsh b 1) (s.size - 1)) := fun h => by
        have hv := hval h
        constructor
        · intro hm; have h1 := vd_form_ge a4 a5 hm; have h2 := pd_pos (m - 1); omega
        · intro hd; apply Nat.pos_of_ne_zero; intro hm; subst hm; simp [vd] at hv; omega
      refine ⟨below_turned HW.out HW.out.size (HT.out _ _) (Nat.le_refl _), a2.turned (HT.out _ _) (fun a ha => .inr (hnew a ha)), by omega, a4, a5, fun a ha => by have := hnew a ha; omega, ?_, ?_⟩
      · constructor
        · intro h
          rw [hok] at h; simp at h
          exact .inl ⟨h0, H1.out, hnum.1 h.1, (hpos h.1).1 h.2⟩
        · rintro (⟨_, _, h3, h4⟩ | ⟨h3, _⟩)
          · rw [hok]; have := hnum.2 h3; simp [this]; exact (hpos this).2 h4
          · exact absurd ⟨h0, H1.out⟩ h3
      · intro h
        rw [hok] at h; simp at h
        exact .inl ⟨rfl, h0, H1.out, h.2, hval h.1⟩
    have FIN := hid fin
    clear fin HAns HRe HT
    cases R
    · go_wp2
      refine bodyPost_ret (v := .tuple #[.agg #[.bool true, .slice x m c], .bool false]) (by simp [results, Tryz.results134, go_sem, z0, z1]) rfl ⟨true, x, m, c, d, false, rfl, FIN.out false (by simp)⟩
    · by_cases hm : 0 < m
      · have hd : decide ((0 : Int) < (m : Int)) = true := by simp; omega
        go_wp2
        refine bodyPost_ret (v := .tuple #[.agg #[.bool true, .slice x m c], .bool true]) (by simp [results, Tryz.results134, go_sem, z0, z1]) rfl ⟨true, x, m, c, d, true, rfl, FIN.out true (by simp [hm])⟩
      · have hd : decide ((0 : Int) < (m : Int)) = false := by simp; omega
        go_wp2
        refine bodyPost_ret (v := .tuple #[.agg #[.bool true, .slice x m c], .bool false]) (by simp [results, Tryz.results134, go_sem, z0, z1]) rfl ⟨true, x, m, c, d, false, rfl, FIN.out false (by simp [hm])⟩
  · have HSb := hid hs; have HMn := hid hmn
    have fin : ∀ (w1 : World) (x : Option Addr) (m c : Nat) (d : Nat → Int), RAns (w.alloc (.cells #[.bool false, .slice none 0 0] 68)) w1 x m d s.size b (numB b s.size) → Below w.heap.size w w1 → w.heap.size < w1.heap.size → ZRead w ((w1.setCell ⟨w.heap.size, 0, none⟩ (.bool false)).setCell ⟨w.heap.size, 1, none⟩ (.slice x m c)) s.size b false x m d (numB b s.size) := by
      intro w1 x m c d hans hw hz
      obtain ⟨a1, a2, a3, a4, a5, a6, a7⟩ := hans
      have hT : Turned w.heap.size (w.heap.size + 1) w1 ((w1.setCell ⟨w.heap.size, 0, none⟩ (.bool false)).setCell ⟨w.heap.size, 1, none⟩ (.slice x m c)) := ((Turned.refl _ _ _).set (by first | omega | (simp; done) | (simp; omega)) (by first | omega | (simp; done) | (simp; omega)) _).set (by first | omega | (simp; done) | (simp; omega)) (by first | omega | (simp; done) | (simp; omega)) _
      have hnew : ∀ a, x = some a → w.heap.size + 1 ≤ a.block := fun a ha => by have := a7 a ha; simpa using this
      refine ⟨below_turned hw hw.size hT (Nat.le_refl _), a2.turned hT (fun a ha => .inr (hnew a ha)), by omega, a4, a5, fun a ha => by have := hnew a ha; omega, ?_, ?_⟩
      · rw [numB_iff]
        constructor
        · intro h; exact .inr ⟨hmn, h⟩
        · rintro (⟨h1, h2, _⟩ | ⟨_, h⟩)
          · exact absurd ⟨h1, h2⟩ hmn
          · exact h
      · intro h; exact .inr ⟨rfl, hmn, a6 h⟩
    have FIN := hid fin
    clear fin
    by_cases h0 : 0 < s.size
    · have hc0 : (s[0]'h0).toNat ≠ 45 := by rw [hs.2 0 h0]; exact fun h => hmn ⟨h0, h⟩
      have d0 : decide ((0 : Int) < (s.size : Int)) = true := by simp; omega
      obtain ⟨y, hy⟩ : ∃ y, (s[0]'h0).toNat = y := ⟨_, rfl⟩
      rw [hy] at hc0
      have hyne : ((y : Int) == 45) = false := by simp; omega
      clear hs hmn hc0
      go_enter Tryz.func134, Tryz.ntmps134
      go_wp2_with fail
      refine (rread_c s s.size b _ HSb.out hL).mono ?_
      rintro e w1 ⟨x, m, c, d, rfl, hans⟩
      obtain ⟨⟨hz, z0, z1⟩, zf, hw⟩ := boxes1 hans.1
      have HF := hid (FIN.out w1 x m c d hans hw hz)
      clear hans hw
      go_wp2
      exact bodyPost_ret (v := .tuple #[.agg #[.bool false, .slice x m c], .bool (numB b s.size)]) (by simp [results, Tryz.results134, go_sem, z0, z1]) rfl ⟨false, x, m, c, d, _, rfl, HF.out⟩
    · have d0 : decide ((0 : Int) < (s.size : Int)) = false := decide_eq_false (by omega)
      clear hs hmn
      go_enter Tryz.func134, Tryz.ntmps134
      go_wp2_with fail
      refine (rread_c s s.size b _ HSb.out hL).mono ?_
      rintro e w1 ⟨x, m, c, d, rfl, hans⟩
      obtain ⟨⟨hz, z0, z1⟩, zf, hw⟩ := boxes1 hans.1
      have HF := hid (FIN.out w1 x m c d hans hw hz)
      clear hans hw
      go_wp2
      exact bodyPost_ret (v := .tuple #[.agg #[.bool false, .slice x m c], .bool (numB b s.size)]) (by simp [results, Tryz.results134, go_sem, z0, z1]) rfl ⟨false, x, m, c, d, _, rfl, HF.out⟩

end Go.Proofs.YtbindadjepfkcaaGreatDoor

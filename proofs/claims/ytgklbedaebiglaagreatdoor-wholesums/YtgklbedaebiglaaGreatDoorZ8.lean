/-
  Walks of the statements' own num, and of package rat's calls Make and Floor. The walk of package rat's call Floor. Walks of the document's Same and Light of rational numbers, and of the statements' own light. The walk of the document's reference for nat: Mul. Walks of the document's reference for whole: Neg, Add, Sub, Mul, Sign, Cmp. Walks of the document's reference for whole: Sub, Sign, Cmp, two, DocNeg, DocCmp. Walks of the document's reference for whole: DocNeg, DocCmp, Doc. The walk of the document's reference for whole: Doc. The walk of the statements' own call of whole's Add, Sub, Mul.
-/
import Derived.Test.YtgklbedaebiglaaGreatDoorZ7
import Derived.Test.YtgklbedaebiglaaGreatDoorZ4
namespace Go.Proofs.YtgklbedaebiglaaGreatDoor
open Go.RowKit

theorem Wn.len1 {w s x n c f v} (h : Wn w s x n c f v) (hv : v.natAbs < 18446744073709551616) : n ≤ 1 := by
  rcases Nat.lt_or_ge 1 n with h2 | h2
  · have h1 := vf_form_ge h.lm h.fm (by omega)
    have h3 := pw_mono (show 1 ≤ n - 1 by omega)
    have h4 : pw 1 = 18446744073709551616 := by simp [pw]
    have h5 := h.mag.nv
    omega
  · omega
set_option maxRecDepth 100000 in
set_option maxHeartbeats 4000000 in
theorem num_c (w : World) (n d : Int) (hn : -9223372036854775808 ≤ n ∧ n ≤ 9223372036854775807) (hd : -9223372036854775808 ≤ d ∧ d ≤ 9223372036854775807) (h1 : n ≠ 0) (h2 : d ≠ 0) :
    Calls Tryz.prog 33 #[.int .i64 n, .int .i64 d] w fun e w' => RatTga 2 w w' e ((n : Rat) / (d : Rat)) := by
  have h3 := ob_new w 40
  have h4 := below_alloc (Below.refl w.heap.size w) (.cells #[.bool false, .slice none 0 0, .slice none 0 0] 40)
  go_enter Tryz.func33, Tryz.ntmps33
  go_wp2_with fail
  generalize w.alloc (.cells #[.bool false, .slice none 0 0, .slice none 0 0] 40) = w1 at *
  have OB1 := hid h3; have HW1 := hid h4
  clear h3 h4
  refine (docOf_c n _ hn.1 hn.2).mono ?_
  rintro e w2 ⟨s2, x2, k2, c2, f2, rfl, hr2, hv2⟩
  have hb := hr2.res.bel
  have WN2 := hid (hr2.wn hv2)
  have hk2 := (hr2.wn hv2).len1 (by omega)
  clear hr2 hv2
  have OB2 := hid (OB1.out.below hb); have HW2 := hid (HW1.out.trans (hb.mono HW1.out.size))
  clear OB1 HW1 hb
  go_wp2_with fail
  refine (docOf_c d _ hd.1 hd.2).mono ?_
  rintro e w3 ⟨s3, x3, k3, c3, f3, rfl, hr3, hv3⟩
  have hb := hr3.res.bel
  have WD3 := hid (hr3.wn hv3)
  have hk3 := (hr3.wn hv3).len1 (by omega)
  clear hr3 hv3
  have OB3 := hid (OB2.out.below hb); have WN3 := hid (WN2.out.below hb); have HW3 := hid (HW2.out.trans (hb.mono HW2.out.size))
  clear OB2 WN2 HW2 hb
  go_wp2_with fail
  refine (docMake_c WN3.out WD3.out h1 h2 hk2 hk3).mono ?_
  rintro e w4 ⟨rs, zn, kn, cn, fn, zd, kd, cd, fd, rfl, hb, hr, ht1, ht2⟩
  have HR := hid hr; have G1 := hid ht1; have G2 := hid ht2
  clear hr ht1 ht2
  have OB4 := hid (OB3.out.below hb); have HW4 := hid (HW3.out.trans (hb.mono HW3.out.size))
  clear OB3 HW3 hb
  obtain ⟨hz, z0, z1, z2, zf⟩ := OB4.out
  go_wp2
  exact bodyPost_ret (v := .agg #[.bool rs, .slice zn kn cn, .slice zd kd cd]) (by simp [results, Tryz.results33, go_sem, z0, z1, z2, hz]) rfl ⟨rs, zn, kn, cn, fn, zd, kd, cd, fd, rfl, below_alloc (below_st HW4.out (Nat.le_refl _)) _, (OB4.out.rn HR.out).alloc _, (((G1.out.set _ _).set _ _).set _ _).alloc _, (((G2.out.set _ _).set _ _).set _ _).alloc _⟩

set_option maxRecDepth 100000 in
set_option maxHeartbeats 4000000 in
theorem rMake_n {w : World} {sa : Bool} {xa : Option Addr} {na ca : Nat} {fa : Nat → Int} {sb : Bool} {xb : Option Addr} {nb cb : Nat} {fb : Nat → Int} {u v : Int} (ha : Wn w sa xa na ca fa u) (hb : Wn w sb xb nb cb fb v) {L : Nat} (hv : v ≠ 0) (hna : na ≤ L) (hnbL : nb ≤ L) (hL : L ≤ 1000) :
    Calls Tryz.prog 31 #[.agg #[.bool sa, .slice xa na ca], .agg #[.bool sb, .slice xb nb cb]] w fun e w' => RatTup L w w' e ((u : Rat) / (v : Rat)) := by
  have HA0 := hid ha; have HB0 := hid hb
  have hvA : 0 < v.natAbs := by omega
  have hnb : 0 < nb := hb.mag.pos (by omega)
  clear ha hb
  have hn0 : ((nb : Int) == 0) = false := by simp; omega
  go_enter Tryz.func31, Tryz.ntmps31
  go_wp2_with fail
  refine (wForm_c sa xa na ca fa _ (by omega) (((HA0.out.alloc _).alloc _).alloc _).rd).mono ?_
  rintro e w1 ⟨rfl, hb⟩
  rw [HA0.out.wf]
  obtain ⟨ba, bb, ob, hw⟩ := mk_boxes hb
  have BA1 := hid ba; have BB1 := hid bb; have OB1 := hid ob; have HW1 := hid hw; have HA1 := hid (HA0.out.below hw); have HB1 := hid (HB0.out.below hw)
  clear ba bb ob hw hb HA0 HB0
  obtain ⟨zb, b0, b1⟩ := BB1.out
  go_wp2_with fail
  refine (wForm_c sb xb nb cb fb _ (by omega) HB1.out.rd).mono ?_
  rintro e w2 ⟨rfl, hb⟩
  rw [HB1.out.wf]
  clear zb b0 b1
  have BA2 := hid (BA1.out.below hb); have BB2 := hid (BB1.out.below hb); have OB2 := hid (OB1.out.below hb); have HA2 := hid (HA1.out.below hb); have HB2 := hid (HB1.out.below hb); have HW2 := hid (HW1.out.trans (hb.mono HW1.out.size))
  clear BA1 BB1 OB1 HA1 HB1 HW1 hb
  obtain ⟨za, a0, a1⟩ := BA2.out
  obtain ⟨zb, b0, b1⟩ := BB2.out
  obtain ⟨hz, z0, z1, z2, zf⟩ := OB2.out
  go_wp2_with fail
  refine (ratGcd_c HA2.out.mag HB2.out.mag (by omega) (by omega)).mono ?_
  rintro e w3 ⟨zg, kg, cg, fg, rfl, hb, hg⟩
  have WG3 := hid hg
  have hG0 : 0 < u.natAbs.gcd v.natAbs := Nat.gcd_pos_of_pos_right _ hvA
  have hkg : kg ≤ L := Nat.le_trans (hg.len_le HB2.out.mag (Nat.gcd_le_right _ hvA)) (by omega)
  clear hg za a0 a1 zb b0 b1 hz z0 z1 z2 zf
  have BA3 := hid (BA2.out.below hb); have BB3 := hid (BB2.out.below hb); have OB3 := hid (OB2.out.below hb); have HA3 := hid (HA2.out.below hb); have HB3 := hid (HB2.out.below hb); have HW3 := hid (HW2.out.trans (hb.mono HW2.out.size))
  clear BA2 BB2 OB2 HA2 HB2 HW2 hb
  obtain ⟨za, a0, a1⟩ := BA3.out
  obtain ⟨zb, b0, b1⟩ := BB3.out
  go_wp2_with fail
  refine (div_n HA3.out.mag WG3.out hG0 (by omega) (by omega)).mono ?_
  rintro e w4 ⟨zn, kn, cn, fn, zx, kx, cx, rfl, hb, hkn, hn⟩
  have WN4 := hid hn
  clear hn za a0 a1 zb b0 b1
  have BA4 := hid (BA3.out.below hb); have BB4 := hid (BB3.out.below hb); have OB4 := hid (OB3.out.below hb); have HA4 := hid (HA3.out.below hb); have HB4 := hid (HB3.out.below hb); have WG4 := hid (WG3.out.below hb); have HW4 := hid (HW3.out.trans (hb.mono HW3.out.size))
  clear BA3 BB3 OB3 HA3 HB3 WG3 HW3 hb
  obtain ⟨za, a0, a1⟩ := BA4.out
  obtain ⟨zb, b0, b1⟩ := BB4.out
  go_wp2_with fail
  refine (div_n HB4.out.mag WG4.out hG0 (by omega) (by omega)).mono ?_
  rintro e w5 ⟨zd, kd, cd, fd, zy, ky, cy, rfl, hb, hkd, hn⟩
  have WD5 := hid hn
  clear hn za a0 a1 zb b0 b1
  have BA5 := hid (BA4.out.below hb); have BB5 := hid (BB4.out.below hb); have OB5 := hid (OB4.out.below hb); have HA5 := hid (HA4.out.below hb); have HB5 := hid (HB4.out.below hb); have WN5 := hid (WN4.out.below hb); have HW5 := hid (HW4.out.trans (hb.mono HW4.out.size))
  clear BA4 BB4 OB4 HA4 HB4 WN4 HW4 hb
  obtain ⟨za, a0, a1⟩ := BA5.out
  obtain ⟨zb, b0, b1⟩ := BB5.out
  obtain ⟨e1, e2⟩ := make_made HA5.out.sgn HB5.out.sgn hvA
  have E1 := hid e1; have E2 := hid e2
  clear e1 e2
  go_wp2_with fail
  refine (rsigned_c _ zn zd kn cn kd cd _ (by omega)).mono ?_
  rintro e w6 ⟨rs, rfl, HRS, hb⟩
  clear za a0 a1 zb b0 b1
  have OB6 := hid (OB5.out.below hb); have WN6 := hid (WN5.out.below hb); have WD6 := hid (WD5.out.below hb); have HW6 := hid (HW5.out.trans (hb.mono HW5.out.size))
  clear OB5 WN5 WD5 HW5 hb
  obtain ⟨hz, z0, z1, z2, zf⟩ := OB6.out
  go_wp2
  refine bodyPost_ret (v := .tuple #[.agg #[.bool rs, .slice zn kn cn, .slice zd kd cd], .int .i64 0]) (by simp [results, Tryz.results31, go_sem, z0, z1, z2]) rfl ⟨rs, zn, kn, cn, fn, zd, kd, cd, fd, rfl, below_st HW6.out (by omega), ⟨?_, ?_, by omega, by omega⟩⟩
  · rw [E1.out]; exact OB6.out.wn (WN6.out.resign HRS.out)
  · rw [E2.out]; exact OB6.out.wn WD6.out
end Go.Proofs.YtgklbedaebiglaaGreatDoor
namespace Go.Proofs.YtgklbedaebiglaaGreatDoor
open Go.RowKit

theorem kM0 {w : World} {g : Nat} {x y : Value} {t : TypeId} (h : g = w.heap.size) : (w.alloc (.cells #[x, y] t)).cell? ⟨g, 0, none⟩ = some x := by subst h; exact kN0
theorem kM1 {w : World} {g : Nat} {x y : Value} {t : TypeId} (h : g = w.heap.size) : (w.alloc (.cells #[x, y] t)).cell? ⟨g, 1, none⟩ = some y := by subst h; exact kN1
theorem kCe {w : World} {a : Addr} {v : Value} (h : (w.cell? a).isSome = true) : (w.setCell a v).cell? a = some v := World.cell?_setCell_same' w a v h
theorem kCo {w : World} {b i j : Nat} {u v : Value} (hij : i ≠ j) (h : w.cell? ⟨b, j, none⟩ = some u) : (w.setCell ⟨b, i, none⟩ v).cell? ⟨b, j, none⟩ = some u := by
  rw [World.cell?_setCell_other _ _ _ _ (fun he => hij (congrArg Addr.off he))]; exact h
/-- A new box for an answer of two cells. -/
structure Ob2 (w : World) (B : Nat) : Prop where
  z : B < w.heap.size
  z0 : w.cell? ⟨B, 0, none⟩ = some (.bool false)
  z1 : w.cell? ⟨B, 1, none⟩ = some (.slice none 0 0)
  zf : ∀ o, w.frozen? ⟨B, o, none⟩ = false
theorem Ob2.below {w w' B} (h : Ob2 w B) (hb : Below w.heap.size w w') : Ob2 w' B := by
  obtain ⟨h1, h2⟩ := bcell hb
  exact ⟨Nat.lt_of_lt_of_le h.z hb.size, kCb hb h.z0, kCb hb h.z1, fun o => (h2 _ _ h.z).trans (h.zf o)⟩
theorem ob2_new (w : World) (t : TypeId) : Ob2 (w.alloc (.cells #[.bool false, .slice none 0 0] t)) w.heap.size := by
  refine ⟨by simp, by simp [go_sem], by simp [go_sem], fun o => ?_⟩
  have e := heap_alloc_new w (.cells #[.bool false, .slice none 0 0] t)
  simp only [World.frozen?, e]; simp
theorem Ob2.wn {w B u0 u1 s x n c f v} (h : Ob2 w B) (hx : Wn w s x n c f v) : Wn ((w.setCell ⟨B, 0, none⟩ u0).setCell ⟨B, 1, none⟩ u1) s x n c f v :=
  ⟨rd_setne (cell_off (by decide) h.z1) (fun i h => by cases h) (rd_setne h.z0 (fun i h => by cases h) hx.rd), hx.lm, hx.wf, hx.cap, hx.nil, hx.val⟩
theorem below_st2 {w0 w : World} {B : Nat} {u0 u1 : Value} (hw : Below w0.heap.size w0 w) (hB : w0.heap.size ≤ B) :
    Below w0.heap.size w0 ((w.setCell ⟨B, 0, none⟩ u0).setCell ⟨B, 1, none⟩ u1) :=
  below_turned hw hw.size (((Turned.refl w0.heap.size (B + 1) w).set (x := ⟨B, 0, none⟩) hB (by simp) _).set (x := ⟨B, 1, none⟩) hB (by simp) _) (Nat.le_refl _)
theorem flr_ediv {a b q r : Int} (hb : 0 < b) (h : Flr a b q r) : q = a / b := by
  obtain ⟨h1, h2⟩ := h
  have h3 : 0 ≤ r ∧ r < b := by omega
  have h4 : a / b = q := by
    rw [h1, Int.add_comm, Int.add_mul_ediv_right _ _ (by omega), Int.ediv_eq_zero_of_lt h3.1 h3.2]; omega
  exact h4.symm
/-- What stands behind the quotient. -/
structure FlAt (L : Nat) (w1 wx : World) (b4 : Nat) (s : Bool) (z : Option Addr) (k c : Nat) (v : Int) : Prop where
  bx : Bx wx b4 s z k c
  bel : Below w1.heap.size w1 wx
  wn : ∃ f, Wn wx s z k c f v
  le : k ≤ L + 2
theorem fl_of {L : Nat} {w1 wx W5 w5 : World} {b4 : Nat} {r1 : Bool} {p1 : Option Addr} {k1 c1 n : Nat} {q : Nat → Int} {v : Int} (hn : n ≤ L) (hW : Below w1.heap.size w1 W5) (hD : WRes (n + 2) W5 w5 r1 p1 k1 c1 q ∧ wv r1 q k1 = v) (hT : Turned w1.heap.size W5.heap.size w5 wx) (hb : Bx wx b4 r1 p1 k1 c1) : FlAt L w1 wx b4 r1 p1 k1 c1 v := by
  have hQ := hD.1.res.turned hW hT
  have := hQ.le
  exact ⟨hb, hQ.bel, ⟨q, hQ.rd, hQ.lm, hD.1.wfB, hQ.ncap, hQ.nil', hD.2⟩, by omega⟩

set_option maxRecDepth 100000 in
set_option maxHeartbeats 8000000 in
theorem rFloor_n {L : Nat} {w : World} {sa : Bool} {xa : Option Addr} {na ca : Nat} {fa : Nat → Int} {ya : Option Addr} {ma da : Nat} {ga : Nat → Int} {a : Rat} (ha : Rn L w sa xa na ca fa ya ma da ga a) (hL : L ≤ 1000) :
    Calls Tryz.prog 30 #[.agg #[.bool sa, .slice xa na ca, .slice ya ma da]] w fun e w' => ∃ s z k c f, e = .returned (.tuple #[.agg #[.bool s, .slice z k c], .int .i64 0]) ∧ Below w.heap.size w w' ∧ k ≤ L + 2 ∧ Wn w' s z k c f a.floor := by
  have HA0 := hid ha
  have b1 := ha.ln; have b2 := ha.ld
  clear ha
  go_enter Tryz.func30, Tryz.ntmps30
  go_wp2_with fail
  refine (rForm_n ((HA0.out.alloc _).alloc _) (by omega)).mono ?_
  rintro e w1 ⟨rfl, hbel⟩
  have hbx := ((bx3_at w _ _ _ _).alloc _).below hbel
  have hob := (ob2_new (w.alloc _) _).below hbel
  rw [size_alloc1] at hob
  have HW1 : Hid (Below w.heap.size w w1) := (below_alloc (below_alloc (Below.refl w.heap.size w) _) _).trans (hbel.mono (by simp; omega))
  have HA1 := hid (HA0.out.below HW1.out); have OB1 := hid hob
  clear hbel hob HA0
  obtain ⟨za, x0, x1, x2⟩ := hbx
  have C1 : Hid (∀ W, Below w1.heap.size w1 W → Calls Tryz.prog 57 #[.agg #[.bool sa, .slice xa na ca, .slice ya ma da]] W fun e w' => e = .returned (.agg #[.bool sa, .slice xa na ca]) ∧ Below W.heap.size W w') := fun W _ => numer_c sa xa ya na ca ma da W
  have C2 : Hid (∀ W, Below w1.heap.size w1 W → Calls Tryz.prog 63 #[.agg #[.bool sa, .slice xa na ca, .slice ya ma da]] W fun e w' => e = .returned (.agg #[.bool false, .slice ya ma da]) ∧ Below W.heap.size W w') := fun W _ => denom_c sa xa ya na ca ma da W
  have C3 : Hid (∀ W, Below w1.heap.size w1 W → Calls Tryz.prog 11 #[.agg #[.bool sa, .slice xa na ca], .agg #[.bool false, .slice ya ma da]] W fun e w' => ∃ r1 p1 k1 c1 q r2 p2 k2 c2, e = .returned (.tuple #[.agg #[.bool r1, .slice p1 k1 c1], .agg #[.bool r2, .slice p2 k2 c2], .int .i64 0]) ∧ Below W.heap.size W w' ∧ Hid (WRes (na + 2) W w' r1 p1 k1 c1 q ∧ wv r1 q k1 = a.floor)) := fun W hW => by
    have hh := HA1.out.below hW
    refine (wDivide_c sa false xa ya na ma ca da fa ga W (by omega) (by omega) hh.num.rd hh.den.rd hh.num.lm hh.den.lm).mono ?_
    rintro e w' ⟨r1, p1, k1, c1, q, r2, p2, k2, c2, r, er, rfl, h1, h2, h3⟩
    have hd := a.den_pos
    have hm0 : 0 < ma := hh.den.pos (by omega)
    rcases h3 with ⟨_, _, rfl, h4⟩ | ⟨_, h4, _⟩ | ⟨h4, _⟩
    · refine ⟨r1, p1, k1, c1, q, r2, p2, k2, c2, rfl, h1.res.bel, h1, ?_⟩
      rw [hh.num.val, hh.den.val] at h4
      rw [flr_ediv (by omega) h4, rfloor]
    · omega
    · exact absurd ⟨hh.num.wf, hh.den.wf⟩ h4
  go_upto_region 3 with fail
  go_cut [4, 5, 6] from 11 to 19 (fun u v t wx => ∃ b4 b5 s z k c, u = .pointer (some ⟨b4, 0, none⟩) ∧ v = .pointer (some ⟨b5, 0, none⟩) ∧ t = .int .i64 0 ∧ FlAt L w1 wx b4 s z k c a.floor)
  case first =>
    go_region_held3 (fun w' => w'.cell? ⟨w.heap.size, 0, none⟩ = some (.bool sa) ∧ w'.cell? ⟨w.heap.size, 1, none⟩ = some (.slice xa na ca) ∧ w'.cell? ⟨w.heap.size, 2, none⟩ = some (.slice ya ma da))
      (refine ⟨?_, ?_, ?_⟩ <;> repeat (with_reducible first | assumption | refine kCd ?_ | refine kCa ?_ | refine kCs (by simp only [ne_eq]; omega) ?_ | refine kCb (by assumption) ?_))
      (first
        | (go_at_call 57; with_reducible refine (C1.out _ (by repeat (with_reducible first | assumption | exact Below.refl _ _ | refine Below.drew ?_ | refine kBa ?_ | refine kBb (by assumption) ?_))).mono ?_; rintro e w3 ⟨rfl, hb3⟩; have hza := hb3.size; (try simp at hza); obtain ⟨hc3, hf3⟩ := bcell hb3; (try have q100 : w1.heap.size < w3.heap.size := by omega); (try have q101 : w1.heap.size + 1 < w3.heap.size := by omega))
        | (go_at_call 63; with_reducible refine (C2.out _ (by repeat (with_reducible first | assumption | exact Below.refl _ _ | refine Below.drew ?_ | refine kBa ?_ | refine kBb (by assumption) ?_))).mono ?_; rintro e w4 ⟨rfl, hb4⟩; have hzb := hb4.size; (try simp at hzb); obtain ⟨hc4, hf4⟩ := bcell hb4; (try have q100 : w1.heap.size < w4.heap.size := by omega); (try have q101 : w1.heap.size + 1 < w4.heap.size := by omega); (try have q102 : w3.heap.size < w4.heap.size := by omega); (try have q103 : w3.heap.size + 1 < w4.heap.size := by omega))
        | (go_at_call 11; with_reducible refine (C3.out _ (by repeat (with_reducible first | assumption | exact Below.refl _ _ | refine Below.drew ?_ | refine kBa ?_ | refine kBb (by assumption) ?_))).mono ?_; rintro e w5 ⟨r1, p1, k1, c1, q, r2, p2, k2, c2, rfl, hb5, HD⟩; have hzc := hb5.size; (try simp at hzc); obtain ⟨hc5, hf5⟩ := bcell hb5; (try have q100 : w1.heap.size < w5.heap.size := by omega); (try have q101 : w1.heap.size + 1 < w5.heap.size := by omega); (try have q102 : w3.heap.size < w5.heap.size := by omega); (try have q103 : w3.heap.size + 1 < w5.heap.size := by omega); (try have q104 : w4.heap.size < w5.heap.size := by omega); (try have q105 : w4.heap.size + 1 < w5.heap.size := by omega)))
    all_goals
      go_wp2_with fail
      go_meet
      refine ⟨_, _, r1, p1, k1, c1, rfl, rfl, rfl, fl_of b1 (by repeat (with_reducible first | assumption | exact Below.refl _ _ | refine Below.drew ?_ | refine kBa ?_ | refine kBb (by assumption) ?_)) HD.out (by repeat (with_reducible first | exact Turned.refl _ _ _ | refine Turned.drew ?_ | refine Turned.alloc ?_ _ | refine Turned.set ?_ (by first | omega | (simp; done) | (simp; omega)) (by first | omega | (simp; done) | (simp; omega)) _)) ⟨(by first | omega | (simp; done) | (simp; omega)), (by repeat (with_reducible first | assumption | exact kN0 | exact kN1 | (refine kM0 ?_; (simp <;> fail)) | (refine kM1 ?_; (simp <;> fail)) | exact kI0 kN0 | exact kI0 kN1 | (refine kI0 (kM0 ?_); (simp <;> fail)) | (refine kI0 (kM1 ?_); (simp <;> fail)) | refine kCd ?_ | refine kCe ?_ | refine kCo (by decide) ?_ | refine kCs (by simp only [ne_eq]; omega) ?_ | refine kCa ?_ | refine kCb (by assumption) ?_ | refine kId ?_ | refine kIs ?_ | refine kIa ?_ | refine kIb (by assumption) ?_)), (by repeat (with_reducible first | assumption | exact kN0 | exact kN1 | (refine kM0 ?_; (simp <;> fail)) | (refine kM1 ?_; (simp <;> fail)) | exact kI0 kN0 | exact kI0 kN1 | (refine kI0 (kM0 ?_); (simp <;> fail)) | (refine kI0 (kM1 ?_); (simp <;> fail)) | refine kCd ?_ | refine kCe ?_ | refine kCo (by decide) ?_ | refine kCs (by simp only [ne_eq]; omega) ?_ | refine kCa ?_ | refine kCb (by assumption) ?_ | refine kId ?_ | refine kIs ?_ | refine kIa ?_ | refine kIb (by assumption) ?_))⟩⟩
  case rest =>
    obtain ⟨b4, b5, s, z, k, c, rfl, rfl, rfl, hbx, hbel, ⟨f, hwn⟩, hle⟩ := hcut
    have OB2' := hid (OB1.out.below hbel); have HW2 := hid (HW1.out.trans (hbel.mono HW1.out.size)); have WN := hid hwn
    clear hbel hwn x0 x1 x2 za C1 C2 C3 OB1 HW1
    obtain ⟨zb, y0, y1⟩ := hbx
    obtain ⟨hz, z0, z1, zf⟩ := OB2'.out
    go_wp2
    exact bodyPost_ret (v := .tuple #[.agg #[.bool s, .slice z k c], .int .i64 0]) (by simp [results, Tryz.results30, go_sem, z0, z1]) rfl ⟨s, z, k, c, f, rfl, below_st2 HW2.out (by omega), hle, OB2'.out.wn WN.out⟩
end Go.Proofs.YtgklbedaebiglaaGreatDoor
namespace Go.Proofs.YtgklbedaebiglaaGreatDoor
open Go.RowKit

/-- Two boxes of three cells. -/
theorem two_new {w w1 : World} {a0 a1 a2 b0 b1 b2 : Value} {t : TypeId} (hb : Below ((w.alloc (.cells #[a0, a1, a2] t)).alloc (.cells #[b0, b1, b2] t)).heap.size ((w.alloc (.cells #[a0, a1, a2] t)).alloc (.cells #[b0, b1, b2] t)) w1) :
    Bx3 w1 w.heap.size a0 a1 a2 ∧ Bx3 w1 (w.heap.size + 1) b0 b1 b2 ∧ Below w.heap.size w w1 := by
  have h2 := bx3_at (w.alloc (.cells #[a0, a1, a2] t)) b0 b1 b2 t
  rw [size_alloc1] at h2
  exact ⟨((bx3_at w a0 a1 a2 t).alloc _).below hb, h2.below hb, (below_alloc (below_alloc (Below.refl w.heap.size w) _) _).trans (hb.mono (by simp; omega))⟩
theorem beq_bool_true {s t : Bool} (h : s = t) : (s == t) = true := by subst h; cases s <;> rfl
theorem beq_bool_false {s t : Bool} (h : ¬ s = t) : (s == t) = false := by cases s <;> cases t <;> first | rfl | exact absurd rfl h
set_option maxHeartbeats 1000000 in
theorem rSame_c (sa : Bool) (xa ya : Option Addr) (na ca ma da : Nat) (fa ga : Nat → Int) (sb : Bool) (xb yb : Option Addr) (nb cb mb db : Nat) (fb gb : Nat → Int) (w : World) (h1 : Rd .u64 w xa na fa) (h2 : Rd .u64 w ya ma ga) (h3 : Rd .u64 w xb nb fb) (h4 : Rd .u64 w yb mb gb) (l1 : na ≤ 140737488355328) (l2 : ma ≤ 140737488355328) (l3 : nb ≤ 140737488355328) (l4 : mb ≤ 140737488355328) :
    Calls Tryz.prog 26 #[.agg #[.bool sa, .slice xa na ca, .slice ya ma da], .agg #[.bool sb, .slice xb nb cb, .slice yb mb db]] w fun e w' => ∃ b, e = .returned (.bool b) ∧ Below w.heap.size w w' ∧ (b = true ↔ sa = sb ∧ Alk na nb fa fb ∧ Alk ma mb ga gb) := by
  have H1 := hid h1; have H2 := hid h2; have H3 := hid h3; have H4 := hid h4
  clear h1 h2 h3 h4
  by_cases hs : sa = sb
  · have hse := beq_bool_true hs
    have HS := hid hs
    clear hs
    go_enter Tryz.func26, Tryz.ntmps26
    go_wp2_with fail
    refine (same_c xa xb na nb ca cb fa fb _ l1 l3 ((H1.out.alloc _).alloc _) ((H3.out.alloc _).alloc _)).mono ?_
    rintro e w1 ⟨⟨q, hq⟩, b, rfl, hb1⟩
    obtain ⟨⟨za, x0, x1, x2⟩, ⟨zb, y0, y1, y2⟩, hw⟩ := two_new (drewN_below hq)
    have HW1 := hid hw; have HB1 := hid hb1
    clear hq hw hb1
    cases b
    · go_wp2
      go_ret
      exact ⟨false, rfl, HW1.out, (fun h => by cases h), fun h => HB1.out.2 h.2.1⟩
    · go_wp2_with fail
      refine (same_c ya yb ma mb da db ga gb _ l2 l4 (H2.out.below HW1.out (Nat.le_refl _)) (H4.out.below HW1.out (Nat.le_refl _))).mono ?_
      rintro e w2 ⟨⟨q, hq⟩, b, rfl, hb2⟩
      have HW2 := hid (HW1.out.trans ((drewN_below hq).mono HW1.out.size)); have HB2 := hid hb2
      clear hq hb2
      go_wp2
      go_ret
      exact ⟨b, rfl, HW2.out, fun h => ⟨HS.out, HB1.out.1 (by simp), HB2.out.1 h⟩, fun h => HB2.out.2 h.2.2⟩
  · have hse := beq_bool_false hs
    have HS := hid hs
    clear hs
    go_enter Tryz.func26, Tryz.ntmps26
    go_wp2
    go_ret
    exact ⟨false, rfl, below_alloc (below_alloc (Below.refl _ _) _) _, (fun h => by cases h), fun h => absurd h.1 HS.out⟩
theorem rSame_n {L L' w sa xa na ca fa ya ma da ga a sb xb nb cb fb yb mb db gb b} (ha : Rn L w sa xa na ca fa ya ma da ga a) (hb : Rn L' w sb xb nb cb fb yb mb db gb b) (h1 : L ≤ 4096) (h2 : L' ≤ 4096) :
    Calls Tryz.prog 26 #[.agg #[.bool sa, .slice xa na ca, .slice ya ma da], .agg #[.bool sb, .slice xb nb cb, .slice yb mb db]] w fun e w' => e = .returned (.bool (decide (a = b))) ∧ Below w.heap.size w w' := by
  have l1 := ha.ln; have l2 := ha.ld; have l3 := hb.ln; have l4 := hb.ld
  refine (rSame_c sa xa ya na ca ma da fa ga sb xb yb nb cb mb db fb gb w ha.num.rd ha.den.rd hb.num.rd hb.den.rd (by omega) (by omega) (by omega) (by omega)).mono ?_
  rintro e w' ⟨c, rfl, h3, h4⟩
  refine ⟨?_, h3⟩
  have h5 := h4.trans (ha.inj hb)
  cases c
  · have : ¬ (a = b) := fun h => by have := h5.2 h; cases this
    simp [this]
  · simp [h5.1 rfl]
def lg (n m k : Nat) : Bool := decide (n ≤ k) && decide (m ≤ k)
theorem rLight_c (s : Bool) (x y : Option Addr) (n c m d : Nat) (w : World) (hn : n ≤ 9223372036854775807) (hm : m ≤ 9223372036854775807) :
    Calls Tryz.prog 21 #[.agg #[.bool s, .slice x n c, .slice y m d], .int .i64 20] w fun e w' => e = .returned (.bool (lg n m 20)) ∧ Below w.heap.size w w' := by
  by_cases h1 : n ≤ 20
  · have d1 : decide ((n : Int) ≤ 20) = true := by simp; omega
    by_cases h2 : m ≤ 20
    · have d2 : decide ((m : Int) ≤ 20) = true := by simp; omega
      rw [show lg n m 20 = true by simp [lg, h1, h2]]
      go_enter Tryz.func21, Tryz.ntmps21
      go_wp2
      go_ret
      exact ⟨rfl, below_alloc (Below.refl _ _) _⟩
    · have d2 : decide ((m : Int) ≤ 20) = false := by simp; omega
      rw [show lg n m 20 = false by simp [lg, h2]]
      go_enter Tryz.func21, Tryz.ntmps21
      go_wp2
      go_ret
      exact ⟨rfl, below_alloc (Below.refl _ _) _⟩
  · have d1 : decide ((n : Int) ≤ 20) = false := by simp; omega
    rw [show lg n m 20 = false by simp [lg, h1]]
    go_enter Tryz.func21, Tryz.ntmps21
    go_wp2
    go_ret
    exact ⟨rfl, below_alloc (Below.refl _ _) _⟩
set_option maxHeartbeats 1000000 in
theorem rlight2_c (sa : Bool) (xa ya : Option Addr) (na ca ma da : Nat) (sb : Bool) (xb yb : Option Addr) (nb cb mb db : Nat) (w : World) (l1 : na ≤ 9223372036854775807) (l2 : ma ≤ 9223372036854775807) (l3 : nb ≤ 9223372036854775807) (l4 : mb ≤ 9223372036854775807) :
    Calls Tryz.prog 20 #[.agg #[.bool sa, .slice xa na ca, .slice ya ma da], .agg #[.bool sb, .slice xb nb cb, .slice yb mb db]] w fun e w' => e = .returned (.bool (lg na ma 20 && lg nb mb 20)) ∧ Below w.heap.size w w' := by
  go_enter Tryz.func20, Tryz.ntmps20
  go_wp2_with fail
  refine (rLight_c sa xa ya na ca ma da _ l1 l2).mono ?_
  rintro e w1 ⟨rfl, hb⟩
  obtain ⟨⟨za, x0, x1, x2⟩, ⟨zb, y0, y1, y2⟩, hw⟩ := two_new hb
  have HW1 := hid hw
  clear hb hw
  cases h1 : lg na ma 20
  · have E : Hid ((lg na ma 20 && lg nb mb 20) = false) := hid (by rw [h1]; rfl)
    go_wp2
    go_ret
    exact ⟨by rw [E.out]; rfl, HW1.out⟩
  · have E : Hid ((lg na ma 20 && lg nb mb 20) = lg nb mb 20) := hid (by rw [h1]; rfl)
    clear h1
    go_wp2_with fail
    refine (rLight_c sb xb yb nb cb mb db _ l3 l4).mono ?_
    rintro e w2 ⟨rfl, hb⟩
    go_wp2
    go_ret
    exact ⟨by rw [E.out]; rfl, HW1.out.trans (hb.mono HW1.out.size)⟩
end Go.Proofs.YtgklbedaebiglaaGreatDoor
namespace Go.Proofs.YtgklbedaebiglaaGreatDoor
open Go.RowKit

theorem mul_digit {Q Q' : Nat → Int} {i j : Nat} {C x y t : Int} {S H : Int} (HV : vd (sh Q i) j + C * pd j = S + x * H) (hk : ∀ k, k < j → Q' (i + k) = Q (i + k)) (hq : Q' (i + j) = t % 4294967296) (ht : t = C + (Q (i + j) + x * y)) :
    vd (sh Q' i) (j + 1) + (t / 4294967296) * pd (j + 1) = (S + Q (i + j) * pd j) + x * (H + y * pd j) := by
  rw [vd_succ, vd_congr (f := sh Q' i) (g := sh Q i) (n := j) (fun k h => hk k h), pd_succ]
  have e1 : sh Q' i j = t % 4294967296 := hq
  rw [e1]
  have e2 : t % 4294967296 = t - 4294967296 * (t / 4294967296) := by omega
  rw [e2, ht]
  generalize (C + (Q (i + j) + x * y)) / 4294967296 = u
  grind
theorem mul_row {Q0 Q Q' : Nat → Int} {i m : Nat} {C x F H : Int} (h0 : vd Q0 (i + m) = F * H) (HV : vd (sh Q i) m + C * pd m = vd (sh Q0 i) m + x * H) (he : ∀ k, k < i → Q k = Q0 k) (hk : ∀ k, k < i + m → Q' k = Q k) (hc : Q' (i + m) = C) :
    vd Q' (i + m + 1) = (F + x * pd i) * H := by
  rw [vd_succ, hc, vd_congr (f := Q') (g := Q) (n := i + m) hk, vd_split, vd_congr (f := Q) (g := Q0) (n := i) he, pd_add]
  rw [vd_split] at h0
  grind

set_option maxRecDepth 100000 in
set_option maxHeartbeats 2000000 in
theorem rmulD_c (ao bo : Option Addr) (n m ca cb : Nat) (f h : Nat → Int) (w : World) (hn : n ≤ 8192) (hm : m ≤ 8192) (hr : Rd .u64 w ao n f) (hs : Rd .u64 w bo m h) (hf : Dg f n) (hh : Dg h m) :
    Calls Tryz.prog 101 #[.slice ao n ca, .slice bo m cb] w fun e w' => ∃ a1 k c1 q, e = .returned (.slice a1 k c1) ∧ Below w.heap.size w w' ∧ k ≤ n + m ∧ Rd .u64 w' a1 k q ∧ Dg q k ∧ Fm q k ∧ vd q k = vd f n * vd h m := by
  have HR := hid hr; have HS := hid hs; have HF := hid hf; have HH := hid hh
  clear hr hs hf hh
  go_enter Tryz.func101, Tryz.ntmps101
  go_wp2_with (at_make; refine wpList_make_blk .u64 w rfl (.tmp 15) (.tmp 15) 22 rfl 36 8 Tryz.underlying22 Tryz.infoU64 .i64 .i64 ((n : Int) + (m : Int)) ((n : Int) + (m : Int)) (n + m) rfl rfl (by omega) (by omega) (by omega) (by unfold maxLen; omega) ?_; intro wa hba hbela)
  go_loopw [19] (fun t wr => ∃ (i : Nat) (Q : Nat → Int), i ≤ n ∧ t = .int .i64 i ∧ Below w.heap.size w wr ∧ Blk .u64 36 wr w.heap.size (n + m) Q ∧ Hid (Dg Q (n + m)) ∧ Hid (∀ k, i + m ≤ k → k < n + m → Q k = 0) ∧ Hid (vd Q (i + m) = vd f i * vd h m)) (fun t _ => n - (intOf t).toNat)
  case atStart => exact ⟨0, fun _ => 0, by omega, rfl, hbela, hba, fun j _ => ⟨Int.le_refl 0, show (0 : Int) < 4294967296 by decide⟩, fun _ _ _ => rfl, hid (by rw [vd_zero (fun _ _ => rfl)]; simp [vd])⟩
  case round =>
    clear hba hbela
    obtain ⟨i, Q0, hi, rfl, hbel, hbl, HL, HZ, HV⟩ := hrel
    by_cases hlt : i < n
    · have hr := HR.out
      obtain ⟨b, o, rfl⟩ := hr.at (by omega)
      obtain ⟨x, hx⟩ : ∃ x, f i = x := ⟨_, rfl⟩
      have hcell : wr.cell? ⟨b, o + i, none⟩ = some (.int .u64 x) := by rw [← hx]; exact (hr.below hbel (Nat.le_refl _)).cell (by omega)
      obtain ⟨x0, x1⟩ := HF.out i (by omega)
      rw [hx] at x0 x1
      have HX := hid hx; have HBl := hid hbl; have HBe := hid hbel
      clear hx hr
      go_wp2
      go_loopw [8, 26] (fun c t wr => ∃ (j : Nat) (C : Int) (Q : Nat → Int), j ≤ m ∧ t = .int .i64 j ∧ c = .int .u64 C ∧ 0 ≤ C ∧ C < 4294967296 ∧ Below w.heap.size w wr ∧ Blk .u64 36 wr w.heap.size (n + m) Q ∧ Hid (Dg Q (n + m)) ∧ Hid (∀ k, k < i ∨ i + j ≤ k → Q k = Q0 k) ∧ Hid (vd (sh Q i) j + C * pd j = vd (sh Q0 i) j + x * vd h j)) (fun _ t _ => m - (intOf t).toNat)
      case atStart => exact ⟨0, 0, Q0, by omega, rfl, rfl, by omega, by omega, HBe.out, HBl.out, HL.out, fun _ _ => rfl, hid (by simp [vd])⟩
      case round =>
        clear hbel hbl hcell
        obtain ⟨j, C, Q, hj, rfl, rfl, C0, C1, hbel, hbl, HD, HE, HW⟩ := hrel
        by_cases hjm : j < m
        · have hs := HS.out
          obtain ⟨b', o', rfl⟩ := hs.at (by omega)
          obtain ⟨y, hy⟩ : ∃ y, h j = y := ⟨_, rfl⟩
          obtain ⟨z, hz⟩ : ∃ z, Q (i + j) = z := ⟨_, rfl⟩
          rename_i wq
          have hcy := (hs.below hbel (Nat.le_refl _)).cell (j := j) (by omega)
          rw [hy] at hcy
          have hcz := hbl.cell (j := i + j) (by omega)
          rw [hz] at hcz
          have hfz := hbl.frozen (i + j)
          obtain ⟨y0, y1⟩ := HH.out j (by omega)
          rw [hy] at y0 y1
          obtain ⟨z0, z1⟩ := HD.out (i + j) (by omega)
          rw [hz] at z0 z1
          have hxy0 : 0 ≤ x * y := Int.mul_nonneg x0 y0
          have hxy1 : x * y ≤ 4294967295 * 4294967295 := Int.mul_le_mul (by omega) (by omega) y0 (by omega)
          obtain ⟨P, hP⟩ : ∃ P, x * y = P := ⟨_, rfl⟩
          rw [hP] at hxy0 hxy1
          obtain ⟨t, ht⟩ : ∃ t, C + (z + P) = t := ⟨_, rfl⟩
          have t0 : 0 ≤ t := by omega
          have t1 : t < 18446744073709551616 := by omega
          have ht2 : t / 4294967296 < 4294967296 := by omega
          have hst := mul_digit (Q' := upd Q (i + j) (t % 4294967296)) (t := t) (y := y) HW.out (fun k hk => upd_other _ _ _ _ (by omega)) (upd_same _ _ _) (by rw [hz, hP, ht])
          have HSt := hid hst; have HY := hid hy; have HZz := hid hz
          clear hst hy hz hs
          go_wp2
          go_roundw
          case rel =>
            refine ⟨j + 1, t / 4294967296, upd Q (i + j) (t % 4294967296), by omega, by go_num, ?_, by omega, ht2, below_only hbel ((Only.refl _ _).setCell _ _ _) (Nat.le_refl _) hbel.size, hbl.set _ _, HD.out.upd ⟨by omega, by omega⟩, fun k hk => ?_, ?_⟩
            · first | rfl | (rw [ht]) | go_num
            · rw [upd_other _ _ _ _ (by omega)]; exact HE.out k (by omega)
            · have e1 : vd (sh Q0 i) (j + 1) = vd (sh Q0 i) j + Q (i + j) * pd j := by rw [vd_succ, HE.out (i + j) (by omega)]; rfl
              have e2 : vd h (j + 1) = vd h j + y * pd j := by rw [vd_succ, HY.out]
              show vd _ _ + _ = _
              rw [e1, e2]
              exact HSt.out
          case measure => simp [intOf]; omega
        · have hjm' : j = m := by omega
          subst hjm'
          have hcm := hbl.cell (j := i + j) (by omega)
          have hfz := hbl.frozen (i + j)
          have hrow := mul_row (Q' := upd Q (i + j) C) HV.out HW.out (fun k hk => HE.out k (.inl hk)) (fun k hk => upd_other _ _ _ _ (by omega)) (upd_same _ _ _)
          have HRow := hid hrow
          clear hrow
          go_wp2
          go_roundw
          case rel =>
            refine ⟨i + 1, upd Q (i + j) C, by omega, by go_num, below_only hbel ((Only.refl _ _).setCell _ _ _) (Nat.le_refl _) hbel.size, hbl.set _ _, HD.out.upd ⟨C0, C1⟩, fun k h1 h2 => ?_, ?_⟩
            · rw [upd_other _ _ _ _ (by omega), HE.out k (.inr (by omega))]; exact HZ.out k (by omega) h2
            · show vd _ _ = _
              rw [show i + 1 + j = i + j + 1 by omega, vd_succ f i, HX.out]
              exact HRow.out
          case measure => simp [intOf]; omega
    · have hin : i = n := by omega
      subst hin
      go_wp2_with fail
      refine (low_c (some ⟨w.heap.size, 0, none⟩) (i + m) (i + m) Q0 wr (Nat.le_refl _) (by omega) (hbl.rd0 (Nat.le_refl _)) (fun h => by cases h)).mono ?_
      rintro e w2 ⟨rfl, k1, hk1, hz, hfm, rfl⟩
      have HZ2 := hid hz; have HFM := hid hfm
      clear hz hfm
      go_wp2
      go_ret
      refine ⟨_, k1, _, Q0, rfl, hbel, hk1, (hbl.rd0 (Nat.le_refl _)).take hk1, HL.out.mono hk1, HFM.out, ?_⟩
      rw [trim_vald hk1 HZ2.out]; exact HV.out
end Go.Proofs.YtgklbedaebiglaaGreatDoor
namespace Go.Proofs.YtgklbedaebiglaaGreatDoor
open Go.RowKit

theorem Ob2.drew {w B} (h : Ob2 w B) : Ob2 w.drew B := ⟨h.z, h.z0, h.z1, h.zf⟩
theorem kO2b {w w' B} (hb : Below w.heap.size w w') (h : Ob2 w B) : Ob2 w' B := h.below hb
theorem Ob2.alloc {w B} (h : Ob2 w B) (o : Obj) : Ob2 (w.alloc o) B := h.below (below_alloc (Below.refl _ _) o)
theorem Ob2.next {w w' B} {o : Obj} (h : Ob2 w B) (hb : Below (w.alloc o).heap.size (w.alloc o) w') : Ob2 w' B := (h.alloc o).below hb
theorem Ob2.dn {w B u0 u1 x n d V} (h : Ob2 w B) (hx : Dn w x n d V) : Dn ((w.setCell ⟨B, 0, none⟩ u0).setCell ⟨B, 1, none⟩ u1) x n d V :=
  ⟨rd_setne (cell_off (by decide) h.z1) (fun i h => by cases h) (rd_setne h.z0 (fun i h => by cases h) hx.rd), hx.dg, hx.fm, hx.val⟩
/-- A whole number of the reference: sign and digits. -/
structure Zn (w : World) (s : Bool) (x : Option Addr) (n : Nat) (d : Nat → Int) (v : Int) : Prop where
  dn : Dn w x n d v.natAbs
  sgn : v = sg s v.natAbs
  pos : s = true → 0 < n
theorem Zn.below {w w' s x n d v} (h : Zn w s x n d v) (hb : Below w.heap.size w w') : Zn w' s x n d v := ⟨h.dn.below hb, h.sgn, h.pos⟩
theorem Zn.alloc {w s x n d v} (h : Zn w s x n d v) (o : Obj) : Zn (w.alloc o) s x n d v := ⟨h.dn.alloc o, h.sgn, h.pos⟩
theorem Zn.next {w w' s x n d v} {o : Obj} (h : Zn w s x n d v) (hb : Below (w.alloc o).heap.size (w.alloc o) w') : Zn w' s x n d v := (h.alloc o).below hb
theorem Dn.pos {w x n d V} (h : Dn w x n d V) (hV : 0 < V) : 0 < n := by
  rcases Nat.eq_zero_or_pos n with h0 | h0
  · subst h0; have : (0 : Int) = V := h.val; omega
  · exact h0
theorem Dn.zero {w x d V} (h : Dn w x 0 d V) : V = 0 := by have : (0 : Int) = V := h.val; omega
theorem Dn.pos' {w x n d V} (h : Dn w x n d V) (hn : 0 < n) : 0 < V := by
  have h1 := vd_form_ge h.dg h.fm hn
  have h2 := pd_pos (n - 1)
  rw [h.val] at h1
  omega
theorem Zn.of {w z k d V} {r s : Bool} (h : Dn w z k d V) (hr : r = (s && decide (0 < k))) : Zn w r z k d (sg s V) := by
  refine ⟨by rw [sg_natAbs]; exact h, ?_, fun h => by rw [hr] at h; simp at h; exact h.2⟩
  rw [sg_natAbs]
  rcases Nat.eq_zero_or_pos k with h0 | h0
  · subst h0
    have := h.zero
    subst this
    cases s <;> cases r <;> rfl
  · have : r = s := by rw [hr]; simp [h0]
    rw [this]
theorem dAdd_c {w x n c d A y m e g B} (ha : Dn w x n d A) (hb : Dn w y m g B) (hn : n ≤ 8192) (hm : m ≤ 8192) :
    Calls Tryz.prog 98 #[.slice x n c, .slice y m e] w fun e w' => ∃ z k c' q, e = .returned (.slice z k c') ∧ Below w.heap.size w w' ∧ Hid (k ≤ n + m + 1 ∧ Dn w' z k q (A + B)) :=
  (radd_c x y n m c e d g w (by omega) (by omega) ha.rd hb.rd ha.dg hb.dg).mono (fun _ _ ⟨z, k, c', q, h1, h2, h3, h4, h5, h6, h7⟩ => ⟨z, k, c', q, h1, h2, h4, h3, h5, h6, by rw [h7, ha.val, hb.val]; omega⟩)
theorem dSub_c {w x n c d A y m e g B} (ha : Dn w x n d A) (hb : Dn w y m g B) (hn : n ≤ 8192) (hm : m ≤ 8192) (hle : B ≤ A) :
    Calls Tryz.prog 100 #[.slice x n c, .slice y m e] w fun e w' => ∃ z k c' q, e = .returned (.slice z k c') ∧ Below w.heap.size w w' ∧ Hid (k ≤ n ∧ Dn w' z k q (A - B)) :=
  (rsub_c x y n m c e d g w (by omega) (by omega) (vd_len hb.dg ha.dg hb.fm (by rw [ha.val, hb.val]; omega)) ha.rd hb.rd ha.dg hb.dg (by rw [ha.val, hb.val]; omega)).mono (fun _ _ ⟨z, k, c', q, h1, h2, h3, h4, h5, h6, h7⟩ => ⟨z, k, c', q, h1, h2, h4, h3, h5, h6, by rw [h7, ha.val, hb.val]; omega⟩)
theorem dMul_c {w x n c d A y m e g B} (ha : Dn w x n d A) (hb : Dn w y m g B) (hn : n ≤ 8192) (hm : m ≤ 8192) :
    Calls Tryz.prog 101 #[.slice x n c, .slice y m e] w fun e w' => ∃ z k c' q, e = .returned (.slice z k c') ∧ Below w.heap.size w w' ∧ Hid (k ≤ n + m ∧ Dn w' z k q (A * B)) :=
  (rmulD_c x y n m c e d g w hn hm ha.rd hb.rd ha.dg hb.dg).mono (fun _ _ ⟨z, k, c', q, h1, h2, h3, h4, h5, h6, h7⟩ => ⟨z, k, c', q, h1, h2, h3, h4, h5, h6, by rw [h7, ha.val, hb.val]; simp⟩)
theorem mkZ_c {w : World} {s : Bool} {z : Option Addr} {k c : Nat} (hk : k ≤ 100000) :
    Calls Tryz.prog 96 #[.bool s, .slice z k c] w fun e w' => ∃ r, e = .returned (.agg #[.bool r, .slice z k c]) ∧ Below w.heap.size w w' ∧ Hid (r = (s && decide (0 < k))) := (zMk_c s z k c w (by omega)).mono (fun _ _ ⟨r, h1, h2, h3⟩ => ⟨r, h1, h3, h2⟩)
/-- A whole number of the reference that a call answers. -/
def ZAns (L : Nat) (w w' : World) (e : Ending) (v : Int) : Prop := ∃ s x n c d, e = .returned (.agg #[.bool s, .slice x n c]) ∧ Below w.heap.size w w' ∧ n ≤ L ∧ Zn w' s x n d v
theorem zboxes {w : World} (sa : Bool) (xa : Option Addr) (na ca : Nat) (sb : Bool) (xb : Option Addr) (nb cb : Nat) (t : TypeId) :
    Bx (((w.alloc (.cells #[.bool sa, .slice xa na ca] t)).alloc (.cells #[.bool sb, .slice xb nb cb] t)).alloc (.cells #[.bool false, .slice none 0 0] t)) w.heap.size sa xa na ca ∧ Bx (((w.alloc (.cells #[.bool sa, .slice xa na ca] t)).alloc (.cells #[.bool sb, .slice xb nb cb] t)).alloc (.cells #[.bool false, .slice none 0 0] t)) (w.heap.size + 1) sb xb nb cb ∧ Ob2 (((w.alloc (.cells #[.bool sa, .slice xa na ca] t)).alloc (.cells #[.bool sb, .slice xb nb cb] t)).alloc (.cells #[.bool false, .slice none 0 0] t)) (w.heap.size + 1 + 1) ∧ Below w.heap.size w (((w.alloc (.cells #[.bool sa, .slice xa na ca] t)).alloc (.cells #[.bool sb, .slice xb nb cb] t)).alloc (.cells #[.bool false, .slice none 0 0] t)) := by
  have h0 : Bx (w.alloc (.cells #[.bool sa, .slice xa na ca] t)) w.heap.size sa xa na ca := ⟨by simp, kN0, kN1⟩
  have h1 : Bx ((w.alloc (.cells #[.bool sa, .slice xa na ca] t)).alloc (.cells #[.bool sb, .slice xb nb cb] t)) (w.heap.size + 1) sb xb nb cb := by
    have := size_alloc1 w (.cells #[.bool sa, .slice xa na ca] t)
    refine ⟨by simp, ?_, ?_⟩
    · rw [← this]; exact kN0
    · rw [← this]; exact kN1
  have h2 := ob2_new ((w.alloc (.cells #[.bool sa, .slice xa na ca] t)).alloc (.cells #[.bool sb, .slice xb nb cb] t)) t
  rw [size_alloc1, size_alloc1] at h2
  exact ⟨(h0.alloc _).alloc _, h1.alloc _, h2, below_alloc (below_alloc (below_alloc (Below.refl w.heap.size w) _) _) _⟩
theorem zmul_val {u v : Int} {s t : Bool} (hu : u = sg s u.natAbs) (hv : v = sg t v.natAbs) : u * v = sg (!(s == t)) (u.natAbs * v.natAbs) := by
  have := sg_mul s t u.natAbs v.natAbs
  rw [← hu, ← hv] at this
  exact this
theorem zadd_same {u v : Int} {s t : Bool} (h : s = t) (hu : u = sg s u.natAbs) (hv : v = sg t v.natAbs) : u + v = sg s (u.natAbs + v.natAbs) := by
  subst h
  cases s
  · have e1 : u = u.natAbs := hu
    have e2 : v = v.natAbs := hv
    show u + v = ((u.natAbs + v.natAbs : Nat) : Int); omega
  · have e1 : u = -(u.natAbs : Int) := hu
    have e2 : v = -(v.natAbs : Int) := hv
    show u + v = -((u.natAbs + v.natAbs : Nat) : Int); omega
theorem zadd_more {u v : Int} {s t : Bool} (h : ¬ s = t) (hu : u = sg s u.natAbs) (hv : v = sg t v.natAbs) (hle : v.natAbs ≤ u.natAbs) : u + v = sg s (u.natAbs - v.natAbs) := by
  cases s <;> cases t
  · exact absurd rfl h
  · have e1 : u = u.natAbs := hu
    have e2 : v = -(v.natAbs : Int) := hv
    show u + v = ((u.natAbs - v.natAbs : Nat) : Int); omega
  · have e1 : u = -(u.natAbs : Int) := hu
    have e2 : v = v.natAbs := hv
    show u + v = -((u.natAbs - v.natAbs : Nat) : Int); omega
  · exact absurd rfl h
theorem zadd_less {u v : Int} {s t : Bool} (h : ¬ s = t) (hu : u = sg s u.natAbs) (hv : v = sg t v.natAbs) (hle : u.natAbs ≤ v.natAbs) : u + v = sg t (v.natAbs - u.natAbs) := by
  rw [Int.add_comm]; exact zadd_more (fun e => h e.symm) hv hu hle

set_option maxRecDepth 100000 in
set_option maxHeartbeats 4000000 in
theorem zMul_c {w : World} {sa : Bool} {xa : Option Addr} {na ca : Nat} {da : Nat → Int} {sb : Bool} {xb : Option Addr} {nb cb : Nat} {db : Nat → Int} {u v : Int} (ha : Zn w sa xa na da u) (hb : Zn w sb xb nb db v) (hn : na ≤ 4096) (hm : nb ≤ 4096) :
    Calls Tryz.prog 73 #[.agg #[.bool sa, .slice xa na ca], .agg #[.bool sb, .slice xb nb cb]] w fun e w' => ZAns (na + nb) w w' e (u * v) := by
  obtain ⟨ba, bb, ob, hw⟩ := zboxes (w := w) sa xa na ca sb xb nb cb 85
  have h1 := ((ha.alloc (.cells #[.bool sa, .slice xa na ca] 85)).alloc (.cells #[.bool sb, .slice xb nb cb] 85)).alloc (.cells #[.bool false, .slice none 0 0] 85)
  have h2 := ((hb.alloc (.cells #[.bool sa, .slice xa na ca] 85)).alloc (.cells #[.bool sb, .slice xb nb cb] 85)).alloc (.cells #[.bool false, .slice none 0 0] 85)
  clear ha hb
  go_enter Tryz.func73, Tryz.ntmps73
  go_wp2_with fail
  generalize ((w.alloc (.cells #[.bool sa, .slice xa na ca] 85)).alloc (.cells #[.bool sb, .slice xb nb cb] 85)).alloc (.cells #[.bool false, .slice none 0 0] 85) = w1 at *
  have HA := hid h1; have HB := hid h2; have HW := hid hw
  obtain ⟨za, a0, a1⟩ := ba
  obtain ⟨zb, b0, b1⟩ := bb
  obtain ⟨hz, z0, z1, zf⟩ := id ob
  clear h1 h2 hw
  have C1 : Hid (∀ W, Below w1.heap.size w1 W → Calls Tryz.prog 101 #[.slice xa na ca, .slice xb nb cb] W fun e w' => ∃ z k c' q, e = .returned (.slice z k c') ∧ Below W.heap.size W w' ∧ Hid (k ≤ na + nb ∧ Dn w' z k q (u.natAbs * v.natAbs))) := fun W hW => dMul_c (HA.out.dn.below hW) (HB.out.dn.below hW) (by omega) (by omega)
  have C2 : Hid (∀ (W : World) (z : Option Addr) (k c : Nat), k ≤ na + nb → Calls Tryz.prog 96 #[.bool (!(sa == sb)), .slice z k c] W fun e w' => ∃ r, e = .returned (.agg #[.bool r, .slice z k c]) ∧ Below W.heap.size W w' ∧ Hid (r = ((!(sa == sb)) && decide (0 < k)))) := fun W z k c hk => mkZ_c (by omega)
  go_wp2_with fail
  go_region_held3 (fun w' => w'.cell? ⟨w.heap.size, 0, none⟩ = some (.bool sa) ∧ w'.cell? ⟨w.heap.size, 1, none⟩ = some (.slice xa na ca) ∧ w'.cell? ⟨w.heap.size + 1, 0, none⟩ = some (.bool sb) ∧ w'.cell? ⟨w.heap.size + 1, 1, none⟩ = some (.slice xb nb cb) ∧ (w'.cell? ⟨w.heap.size + 1 + 1, 0, none⟩).isSome = true ∧ (w'.cell? ⟨w.heap.size + 1 + 1, 1, none⟩).isSome = true ∧ w'.frozen? ⟨w.heap.size + 1 + 1, 0, none⟩ = false ∧ w'.frozen? ⟨w.heap.size + 1 + 1, 1, none⟩ = false)
    (refine ⟨?_, ?_, ?_, ?_, ?_, ?_, ?_, ?_⟩ <;> repeat (with_reducible first | assumption | exact zf _ | exact kI0 z0 | exact kI0 z1 | exact tf _ | exact kI0 t0 | exact kI0 t1 | exact uf _ | exact kI0 u0 | exact kI0 u1 | refine kCd ?_ | refine kId ?_ | refine kFd ?_ | refine kCs (by simp only [ne_eq]; omega) ?_ | refine kIs ?_ | refine kFs ?_ | refine kCb (by assumption) ?_ | refine kIb (by assumption) ?_))
    (first
      | (go_at_call 101; with_reducible refine (C1.out _ (by repeat (with_reducible first | assumption | exact Below.refl _ _ | refine Below.drew ?_ | refine kBa ?_ | refine kBb (by assumption) ?_))).mono ?_; rintro e v5 ⟨zp, kp, cp, qp, rfl, hv5, HP⟩; have TU : Ob2 v5 (w.heap.size + 1 + 1) := (by repeat (with_reducible first | exact ob | exact TU | exact TV | refine Ob2.drew ?_ | refine kO2b (by assumption) ?_)); obtain ⟨_, t0, t1, tf⟩ := id TU)
      | (go_at_call 96; with_reducible refine (C2.out _ zp kp cp HP.out.1).mono ?_; rintro e v6 ⟨rr, rfl, hv6, HR⟩; have TV : Ob2 v6 (w.heap.size + 1 + 1) := (by repeat (with_reducible first | exact ob | exact TU | exact TV | refine Ob2.drew ?_ | refine kO2b (by assumption) ?_)); obtain ⟨_, u0, u1, uf⟩ := id TV))
  have hb : Below w1.heap.size w1 v6 := (by repeat (with_reducible first | assumption | exact Below.refl _ _ | refine Below.drew ?_ | refine kBa ?_ | refine kBb (by assumption) ?_))
  have DP := HP.out.2.below hv6
  go_wp2
  refine bodyPost_ret (v := .agg #[.bool rr, .slice zp kp cp]) (by simp [results, Tryz.results73, go_sem, u0, u1]) rfl ⟨rr, zp, kp, cp, qp, rfl, below_st2 (HW.out.trans (hb.mono HW.out.size)) (by omega), by have := HP.out.1; omega, ?_⟩
  rw [zmul_val HA.out.sgn HB.out.sgn]
  exact Zn.of (TV.dn DP) HR.out

set_option maxRecDepth 100000 in
set_option maxHeartbeats 4000000 in
theorem zAdd_same {w : World} {sa : Bool} {xa : Option Addr} {na ca : Nat} {da : Nat → Int} {sb : Bool} {xb : Option Addr} {nb cb : Nat} {db : Nat → Int} {u v : Int} (ha : Zn w sa xa na da u) (hb : Zn w sb xb nb db v) (hn : na ≤ 4096) (hm : nb ≤ 4096) (hs : sa = sb) :
    Calls Tryz.prog 71 #[.agg #[.bool sa, .slice xa na ca], .agg #[.bool sb, .slice xb nb cb]] w fun e w' => ZAns (na + nb + 1) w w' e (u + v) := by
  obtain ⟨ba, bb, ob, hw⟩ := zboxes (w := w) sa xa na ca sb xb nb cb 85
  have h1 := ((ha.alloc (.cells #[.bool sa, .slice xa na ca] 85)).alloc (.cells #[.bool sb, .slice xb nb cb] 85)).alloc (.cells #[.bool false, .slice none 0 0] 85)
  have h2 := ((hb.alloc (.cells #[.bool sa, .slice xa na ca] 85)).alloc (.cells #[.bool sb, .slice xb nb cb] 85)).alloc (.cells #[.bool false, .slice none 0 0] 85)
  clear ha hb
  have hse := beq_bool_true hs
  have HS := hid hs
  clear hs
  go_enter Tryz.func71, Tryz.ntmps71
  go_wp2_with fail
  generalize ((w.alloc (.cells #[.bool sa, .slice xa na ca] 85)).alloc (.cells #[.bool sb, .slice xb nb cb] 85)).alloc (.cells #[.bool false, .slice none 0 0] 85) = w1 at *
  have HA := hid h1; have HB := hid h2; have HW := hid hw
  obtain ⟨za, a0, a1⟩ := ba
  obtain ⟨zb, b0, b1⟩ := bb
  obtain ⟨hz, z0, z1, zf⟩ := id ob
  clear h1 h2 hw
  have C1 : Hid (∀ W, Below w1.heap.size w1 W → Calls Tryz.prog 98 #[.slice xa na ca, .slice xb nb cb] W fun e w' => ∃ z k c' q, e = .returned (.slice z k c') ∧ Below W.heap.size W w' ∧ Hid (k ≤ na + nb + 1 ∧ Dn w' z k q (u.natAbs + v.natAbs))) := fun W hW => dAdd_c (HA.out.dn.below hW) (HB.out.dn.below hW) (by omega) (by omega)
  have C2 : Hid (∀ (W : World) (z : Option Addr) (k c : Nat), k ≤ na + nb + 1 → Calls Tryz.prog 96 #[.bool (sa), .slice z k c] W fun e w' => ∃ r, e = .returned (.agg #[.bool r, .slice z k c]) ∧ Below W.heap.size W w' ∧ Hid (r = ((sa) && decide (0 < k)))) := fun W z k c hk => mkZ_c (by omega)
  go_wp2_with fail
  go_region_held3 (fun w' => w'.cell? ⟨w.heap.size, 0, none⟩ = some (.bool sa) ∧ w'.cell? ⟨w.heap.size, 1, none⟩ = some (.slice xa na ca) ∧ w'.cell? ⟨w.heap.size + 1, 0, none⟩ = some (.bool sb) ∧ w'.cell? ⟨w.heap.size + 1, 1, none⟩ = some (.slice xb nb cb) ∧ (w'.cell? ⟨w.heap.size + 1 + 1, 0, none⟩).isSome = true ∧ (w'.cell? ⟨w.heap.size + 1 + 1, 1, none⟩).isSome = true ∧ w'.frozen? ⟨w.heap.size + 1 + 1, 0, none⟩ = false ∧ w'.frozen? ⟨w.heap.size + 1 + 1, 1, none⟩ = false)
    (refine ⟨?_, ?_, ?_, ?_, ?_, ?_, ?_, ?_⟩ <;> repeat (with_reducible first | assumption | exact zf _ | exact kI0 z0 | exact kI0 z1 | exact tf _ | exact kI0 t0 | exact kI0 t1 | exact uf _ | exact kI0 u0 | exact kI0 u1 | refine kCd ?_ | refine kId ?_ | refine kFd ?_ | refine kCs (by simp only [ne_eq]; omega) ?_ | refine kIs ?_ | refine kFs ?_ | refine kCb (by assumption) ?_ | refine kIb (by assumption) ?_))
    (first
      | (go_at_call 98; with_reducible refine (C1.out _ (by repeat (with_reducible first | assumption | exact Below.refl _ _ | refine Below.drew ?_ | refine kBa ?_ | refine kBb (by assumption) ?_))).mono ?_; rintro e v5 ⟨zp, kp, cp, qp, rfl, hv5, HP⟩; have TU : Ob2 v5 (w.heap.size + 1 + 1) := (by repeat (with_reducible first | exact ob | exact TU | exact TV | refine Ob2.drew ?_ | refine kO2b (by assumption) ?_)); obtain ⟨_, t0, t1, tf⟩ := id TU)
      | (go_at_call 96; with_reducible refine (C2.out _ zp kp cp HP.out.1).mono ?_; rintro e v6 ⟨rr, rfl, hv6, HR⟩; have TV : Ob2 v6 (w.heap.size + 1 + 1) := (by repeat (with_reducible first | exact ob | exact TU | exact TV | refine Ob2.drew ?_ | refine kO2b (by assumption) ?_)); obtain ⟨_, u0, u1, uf⟩ := id TV))
  have hb : Below w1.heap.size w1 v6 := (by repeat (with_reducible first | assumption | exact Below.refl _ _ | refine Below.drew ?_ | refine kBa ?_ | refine kBb (by assumption) ?_))
  have DP := HP.out.2.below hv6
  go_wp2
  refine bodyPost_ret (v := .agg #[.bool rr, .slice zp kp cp]) (by simp [results, Tryz.results71, go_sem, u0, u1]) rfl ⟨rr, zp, kp, cp, qp, rfl, below_st2 (HW.out.trans (hb.mono HW.out.size)) (by omega), by have := HP.out.1; omega, ?_⟩
  rw [zadd_same HS.out HA.out.sgn HB.out.sgn]
  exact Zn.of (TV.dn DP) HR.out

set_option maxRecDepth 100000 in
set_option maxHeartbeats 4000000 in
theorem zAdd_more {w : World} {sa : Bool} {xa : Option Addr} {na ca : Nat} {da : Nat → Int} {sb : Bool} {xb : Option Addr} {nb cb : Nat} {db : Nat → Int} {u v : Int} (ha : Zn w sa xa na da u) (hb : Zn w sb xb nb db v) (hn : na ≤ 4096) (hm : nb ≤ 4096) (hs : ¬ sa = sb) (hle : v.natAbs ≤ u.natAbs) :
    Calls Tryz.prog 71 #[.agg #[.bool sa, .slice xa na ca], .agg #[.bool sb, .slice xb nb cb]] w fun e w' => ZAns (na + nb + 1) w w' e (u + v) := by
  obtain ⟨ba, bb, ob, hw⟩ := zboxes (w := w) sa xa na ca sb xb nb cb 85
  have h1 := ((ha.alloc (.cells #[.bool sa, .slice xa na ca] 85)).alloc (.cells #[.bool sb, .slice xb nb cb] 85)).alloc (.cells #[.bool false, .slice none 0 0] 85)
  have h2 := ((hb.alloc (.cells #[.bool sa, .slice xa na ca] 85)).alloc (.cells #[.bool sb, .slice xb nb cb] 85)).alloc (.cells #[.bool false, .slice none 0 0] 85)
  clear ha hb
  have hse := beq_bool_false hs
  have HS := hid hs
  clear hs
  go_enter Tryz.func71, Tryz.ntmps71
  go_wp2_with fail
  generalize ((w.alloc (.cells #[.bool sa, .slice xa na ca] 85)).alloc (.cells #[.bool sb, .slice xb nb cb] 85)).alloc (.cells #[.bool false, .slice none 0 0] 85) = w1 at *
  have HA := hid h1; have HB := hid h2; have HW := hid hw
  obtain ⟨za, a0, a1⟩ := ba
  obtain ⟨zb, b0, b1⟩ := bb
  obtain ⟨hz, z0, z1, zf⟩ := id ob
  clear h1 h2 hw
  refine (rcmp_c xa xb na nb ca cb da db _ (by omega) (by omega) HA.out.dn.rd HB.out.dn.rd HA.out.dn.dg HB.out.dn.dg HA.out.dn.fm HB.out.dn.fm).mono ?_
  rintro e w2 ⟨⟨q, hq⟩, cc, rfl, hord⟩
  have hb := drewN_below hq
  clear hq
  rw [HA.out.dn.val, HB.out.dn.val] at hord
  have hsg : decide ((0 : Int) ≤ cc) = true := by
    rcases hord with ⟨h1, h2⟩ | ⟨h1, h2⟩ | ⟨h1, h2⟩ <;> subst h1 <;> first | rfl | (exfalso; omega)
  have HA2 := hid (HA.out.below hb); have HB2 := hid (HB.out.below hb); have HW2 := hid (HW.out.trans (hb.mono HW.out.size)); have ob2 := ob.below hb
  have a0' := kCb hb a0; have a1' := kCb hb a1; have b0' := kCb hb b0; have b1' := kCb hb b1
  clear hb hord a0 a1 b0 b1 hz z0 z1 zf za zb HW HA HB ob
  obtain ⟨hz, z0, z1, zf⟩ := id ob2
  have HA := hid HA2.out; have HB := hid HB2.out; have HW := hid HW2.out
  have C1 : Hid (∀ W, Below w2.heap.size w2 W → Calls Tryz.prog 100 #[.slice xa na ca, .slice xb nb cb] W fun e w' => ∃ z k c' q, e = .returned (.slice z k c') ∧ Below W.heap.size W w' ∧ Hid (k ≤ na ∧ Dn w' z k q (u.natAbs - v.natAbs))) := fun W hW => dSub_c (HA.out.dn.below hW) (HB.out.dn.below hW) (by omega) (by omega) hle
  have C2 : Hid (∀ (W : World) (z : Option Addr) (k c : Nat), k ≤ na → Calls Tryz.prog 96 #[.bool (sa), .slice z k c] W fun e w' => ∃ r, e = .returned (.agg #[.bool r, .slice z k c]) ∧ Below W.heap.size W w' ∧ Hid (r = ((sa) && decide (0 < k)))) := fun W z k c hk => mkZ_c (by omega)
  go_wp2_with fail
  go_region_held3 (fun w' => w'.cell? ⟨w.heap.size, 0, none⟩ = some (.bool sa) ∧ w'.cell? ⟨w.heap.size, 1, none⟩ = some (.slice xa na ca) ∧ w'.cell? ⟨w.heap.size + 1, 0, none⟩ = some (.bool sb) ∧ w'.cell? ⟨w.heap.size + 1, 1, none⟩ = some (.slice xb nb cb) ∧ (w'.cell? ⟨w.heap.size + 1 + 1, 0, none⟩).isSome = true ∧ (w'.cell? ⟨w.heap.size + 1 + 1, 1, none⟩).isSome = true ∧ w'.frozen? ⟨w.heap.size + 1 + 1, 0, none⟩ = false ∧ w'.frozen? ⟨w.heap.size + 1 + 1, 1, none⟩ = false)
    (refine ⟨?_, ?_, ?_, ?_, ?_, ?_, ?_, ?_⟩ <;> repeat (with_reducible first | assumption | exact zf _ | exact kI0 z0 | exact kI0 z1 | exact tf _ | exact kI0 t0 | exact kI0 t1 | exact uf _ | exact kI0 u0 | exact kI0 u1 | refine kCd ?_ | refine kId ?_ | refine kFd ?_ | refine kCs (by simp only [ne_eq]; omega) ?_ | refine kIs ?_ | refine kFs ?_ | refine kCb (by assumption) ?_ | refine kIb (by assumption) ?_))
    (first
      | (go_at_call 100; with_reducible refine (C1.out _ (by repeat (with_reducible first | assumption | exact Below.refl _ _ | refine Below.drew ?_ | refine kBa ?_ | refine kBb (by assumption) ?_))).mono ?_; rintro e v5 ⟨zp, kp, cp, qp, rfl, hv5, HP⟩; have TU : Ob2 v5 (w.heap.size + 1 + 1) := (by repeat (with_reducible first | exact ob2 | exact TU | exact TV | refine Ob2.drew ?_ | refine kO2b (by assumption) ?_)); obtain ⟨_, t0, t1, tf⟩ := id TU)
      | (go_at_call 96; with_reducible refine (C2.out _ zp kp cp HP.out.1).mono ?_; rintro e v6 ⟨rr, rfl, hv6, HR⟩; have TV : Ob2 v6 (w.heap.size + 1 + 1) := (by repeat (with_reducible first | exact ob2 | exact TU | exact TV | refine Ob2.drew ?_ | refine kO2b (by assumption) ?_)); obtain ⟨_, u0, u1, uf⟩ := id TV))
  have hb : Below w2.heap.size w2 v6 := (by repeat (with_reducible first | assumption | exact Below.refl _ _ | refine Below.drew ?_ | refine kBa ?_ | refine kBb (by assumption) ?_))
  have DP := HP.out.2.below hv6
  go_wp2
  refine bodyPost_ret (v := .agg #[.bool rr, .slice zp kp cp]) (by simp [results, Tryz.results71, go_sem, u0, u1]) rfl ⟨rr, zp, kp, cp, qp, rfl, below_st2 (HW.out.trans (hb.mono HW.out.size)) (by omega), by have := HP.out.1; omega, ?_⟩
  rw [zadd_more HS.out HA.out.sgn HB.out.sgn hle]
  exact Zn.of (TV.dn DP) HR.out

set_option maxRecDepth 100000 in
set_option maxHeartbeats 4000000 in
theorem zAdd_less {w : World} {sa : Bool} {xa : Option Addr} {na ca : Nat} {da : Nat → Int} {sb : Bool} {xb : Option Addr} {nb cb : Nat} {db : Nat → Int} {u v : Int} (ha : Zn w sa xa na da u) (hb : Zn w sb xb nb db v) (hn : na ≤ 4096) (hm : nb ≤ 4096) (hs : ¬ sa = sb) (hlt : u.natAbs < v.natAbs) :
    Calls Tryz.prog 71 #[.agg #[.bool sa, .slice xa na ca], .agg #[.bool sb, .slice xb nb cb]] w fun e w' => ZAns (na + nb + 1) w w' e (u + v) := by
  obtain ⟨ba, bb, ob, hw⟩ := zboxes (w := w) sa xa na ca sb xb nb cb 85
  have h1 := ((ha.alloc (.cells #[.bool sa, .slice xa na ca] 85)).alloc (.cells #[.bool sb, .slice xb nb cb] 85)).alloc (.cells #[.bool false, .slice none 0 0] 85)
  have h2 := ((hb.alloc (.cells #[.bool sa, .slice xa na ca] 85)).alloc (.cells #[.bool sb, .slice xb nb cb] 85)).alloc (.cells #[.bool false, .slice none 0 0] 85)
  clear ha hb
  have hse := beq_bool_false hs
  have HS := hid hs
  clear hs
  go_enter Tryz.func71, Tryz.ntmps71
  go_wp2_with fail
  generalize ((w.alloc (.cells #[.bool sa, .slice xa na ca] 85)).alloc (.cells #[.bool sb, .slice xb nb cb] 85)).alloc (.cells #[.bool false, .slice none 0 0] 85) = w1 at *
  have HA := hid h1; have HB := hid h2; have HW := hid hw
  obtain ⟨za, a0, a1⟩ := ba
  obtain ⟨zb, b0, b1⟩ := bb
  obtain ⟨hz, z0, z1, zf⟩ := id ob
  clear h1 h2 hw
  refine (rcmp_c xa xb na nb ca cb da db _ (by omega) (by omega) HA.out.dn.rd HB.out.dn.rd HA.out.dn.dg HB.out.dn.dg HA.out.dn.fm HB.out.dn.fm).mono ?_
  rintro e w2 ⟨⟨q, hq⟩, cc, rfl, hord⟩
  have hb := drewN_below hq
  clear hq
  rw [HA.out.dn.val, HB.out.dn.val] at hord
  have hsg : decide ((0 : Int) ≤ cc) = false := by
    rcases hord with ⟨h1, h2⟩ | ⟨h1, h2⟩ | ⟨h1, h2⟩ <;> subst h1 <;> first | rfl | (exfalso; omega)
  have HA2 := hid (HA.out.below hb); have HB2 := hid (HB.out.below hb); have HW2 := hid (HW.out.trans (hb.mono HW.out.size)); have ob2 := ob.below hb
  have a0' := kCb hb a0; have a1' := kCb hb a1; have b0' := kCb hb b0; have b1' := kCb hb b1
  clear hb hord a0 a1 b0 b1 hz z0 z1 zf za zb HW HA HB ob
  obtain ⟨hz, z0, z1, zf⟩ := id ob2
  have HA := hid HA2.out; have HB := hid HB2.out; have HW := hid HW2.out
  have C1 : Hid (∀ W, Below w2.heap.size w2 W → Calls Tryz.prog 100 #[.slice xb nb cb, .slice xa na ca] W fun e w' => ∃ z k c' q, e = .returned (.slice z k c') ∧ Below W.heap.size W w' ∧ Hid (k ≤ nb ∧ Dn w' z k q (v.natAbs - u.natAbs))) := fun W hW => dSub_c (HB.out.dn.below hW) (HA.out.dn.below hW) (by omega) (by omega) (by omega)
  have C2 : Hid (∀ (W : World) (z : Option Addr) (k c : Nat), k ≤ nb → Calls Tryz.prog 96 #[.bool (sb), .slice z k c] W fun e w' => ∃ r, e = .returned (.agg #[.bool r, .slice z k c]) ∧ Below W.heap.size W w' ∧ Hid (r = ((sb) && decide (0 < k)))) := fun W z k c hk => mkZ_c (by omega)
  go_wp2_with fail
  go_region_held3 (fun w' => w'.cell? ⟨w.heap.size, 0, none⟩ = some (.bool sa) ∧ w'.cell? ⟨w.heap.size, 1, none⟩ = some (.slice xa na ca) ∧ w'.cell? ⟨w.heap.size + 1, 0, none⟩ = some (.bool sb) ∧ w'.cell? ⟨w.heap.size + 1, 1, none⟩ = some (.slice xb nb cb) ∧ (w'.cell? ⟨w.heap.size + 1 + 1, 0, none⟩).isSome = true ∧ (w'.cell? ⟨w.heap.size + 1 + 1, 1, none⟩).isSome = true ∧ w'.frozen? ⟨w.heap.size + 1 + 1, 0, none⟩ = false ∧ w'.frozen? ⟨w.heap.size + 1 + 1, 1, none⟩ = false)
    (refine ⟨?_, ?_, ?_, ?_, ?_, ?_, ?_, ?_⟩ <;> repeat (with_reducible first | assumption | exact zf _ | exact kI0 z0 | exact kI0 z1 | exact tf _ | exact kI0 t0 | exact kI0 t1 | exact uf _ | exact kI0 u0 | exact kI0 u1 | refine kCd ?_ | refine kId ?_ | refine kFd ?_ | refine kCs (by simp only [ne_eq]; omega) ?_ | refine kIs ?_ | refine kFs ?_ | refine kCb (by assumption) ?_ | refine kIb (by assumption) ?_))
    (first
      | (go_at_call 100; with_reducible refine (C1.out _ (by repeat (with_reducible first | assumption | exact Below.refl _ _ | refine Below.drew ?_ | refine kBa ?_ | refine kBb (by assumption) ?_))).mono ?_; rintro e v5 ⟨zp, kp, cp, qp, rfl, hv5, HP⟩; have TU : Ob2 v5 (w.heap.size + 1 + 1) := (by repeat (with_reducible first | exact ob2 | exact TU | exact TV | refine Ob2.drew ?_ | refine kO2b (by assumption) ?_)); obtain ⟨_, t0, t1, tf⟩ := id TU)
      | (go_at_call 96; with_reducible refine (C2.out _ zp kp cp HP.out.1).mono ?_; rintro e v6 ⟨rr, rfl, hv6, HR⟩; have TV : Ob2 v6 (w.heap.size + 1 + 1) := (by repeat (with_reducible first | exact ob2 | exact TU | exact TV | refine Ob2.drew ?_ | refine kO2b (by assumption) ?_)); obtain ⟨_, u0, u1, uf⟩ := id TV))
  have hb : Below w2.heap.size w2 v6 := (by repeat (with_reducible first | assumption | exact Below.refl _ _ | refine Below.drew ?_ | refine kBa ?_ | refine kBb (by assumption) ?_))
  have DP := HP.out.2.below hv6
  go_wp2
  refine bodyPost_ret (v := .agg #[.bool rr, .slice zp kp cp]) (by simp [results, Tryz.results71, go_sem, u0, u1]) rfl ⟨rr, zp, kp, cp, qp, rfl, below_st2 (HW.out.trans (hb.mono HW.out.size)) (by omega), by have := HP.out.1; omega, ?_⟩
  rw [zadd_less HS.out HA.out.sgn HB.out.sgn (by omega)]
  exact Zn.of (TV.dn DP) HR.out

theorem zAdd_c {w : World} {sa : Bool} {xa : Option Addr} {na ca : Nat} {da : Nat → Int} {sb : Bool} {xb : Option Addr} {nb cb : Nat} {db : Nat → Int} {u v : Int} (ha : Zn w sa xa na da u) (hb : Zn w sb xb nb db v) (hn : na ≤ 4096) (hm : nb ≤ 4096) :
    Calls Tryz.prog 71 #[.agg #[.bool sa, .slice xa na ca], .agg #[.bool sb, .slice xb nb cb]] w fun e w' => ZAns (na + nb + 1) w w' e (u + v) := by
  by_cases hs : sa = sb
  · exact zAdd_same ha hb hn hm hs
  · by_cases hle : v.natAbs ≤ u.natAbs
    · exact zAdd_more ha hb hn hm hs hle
    · exact zAdd_less ha hb hn hm hs (by omega)
theorem zNeg_c {w : World} {sa : Bool} {xa : Option Addr} {na ca : Nat} {da : Nat → Int} {u : Int} (ha : Zn w sa xa na da u) (hn : na ≤ 4096) :
    Calls Tryz.prog 75 #[.agg #[.bool sa, .slice xa na ca]] w fun e w' => ∃ s c, e = .returned (.agg #[.bool s, .slice xa na c]) ∧ Below w.heap.size w w' ∧ Hid (Zn w' s xa na da (-u)) := by
  have HA := hid ha
  clear ha
  go_enter Tryz.func75, Tryz.ntmps75
  go_wp2_with fail
  refine (zMk_c _ xa na ca _ (by omega)).mono ?_
  rintro e w1 ⟨r, rfl, HR, hbel⟩
  have hob := (ob2_new (w.alloc _) _).below hbel
  rw [size_alloc1] at hob
  have HW1 : Hid (Below w.heap.size w w1) := (below_alloc (below_alloc (Below.refl w.heap.size w) _) _).trans (hbel.mono (by simp; omega))
  have OB1 := hid hob
  clear hbel hob
  obtain ⟨hz, z0, z1, zf⟩ := OB1.out
  go_wp2
  refine bodyPost_ret (v := .agg #[.bool r, .slice xa na ca]) (by simp [results, Tryz.results75, go_sem, z0, z1]) rfl ⟨r, ca, rfl, below_st2 HW1.out (by omega), ?_⟩
  have hm := HA.out.sgn
  have e : -u = sg (!sa) u.natAbs := by
    generalize u.natAbs = A at hm
    rw [hm]
    cases sa
    · rfl
    · show - -(A : Int) = A; omega
  show Zn _ _ _ _ _ (-u)
  rw [e]
  exact Zn.of (OB1.out.dn (HA.out.dn.below HW1.out)) HR.out
end Go.Proofs.YtgklbedaebiglaaGreatDoor
namespace Go.Proofs.YtgklbedaebiglaaGreatDoor
open Go.RowKit

theorem zFromZ_c {w s x n c f v} (h : Wn w s x n c f v) (hn : n ≤ 4096) :
    Calls Tryz.prog 70 #[.agg #[.bool s, .slice x n c]] w fun e w' => ∃ t z m c' d, e = .returned (.agg #[.bool t, .slice z m c']) ∧ Below w.heap.size w w' ∧ Hid (m ≤ 2 * n ∧ Zn w' t z m d v) := by
  refine (zFrom_c s x n c f w (by omega) h.rd h.lm h.wf).mono ?_
  rintro e w' ⟨t, z, m, c', d, rfl, h1, rfl, h2⟩
  have hv := h.mag.nv
  refine ⟨t, z, m, c', d, rfl, h1.bel, h1.le, ⟨h1.rd, h1.dg, h1.fm, ?_⟩, h.sgn, h1.sgn⟩
  rw [h2]; exact hv
theorem zToW_c {w s x n c d v} (h : Zn w s x n d v) (hn : n ≤ 100000) :
    Calls Tryz.prog 65 #[.agg #[.bool s, .slice x n c]] w fun e w' => ∃ r z k c' f, e = .returned (.agg #[.bool r, .slice z k c']) ∧ Below w.heap.size w w' ∧ Hid (k ≤ n ∧ Wn w' r z k c' f v) := by
  refine (zTo_c s x n c d v w (by omega) h.dn.rd h.dn.dg h.dn.fm h.pos ?_).mono ?_
  · rw [h.dn.val]
    have := h.sgn
    cases s
    · have e : v = v.natAbs := this
      show (v.natAbs : Int) = v; omega
    · have e : v = -(v.natAbs : Int) := this
      show -(v.natAbs : Int) = v; omega
  · rintro e w' ⟨r, z, k, c', f, rfl, h1, h2⟩
    exact ⟨r, z, k, c', f, rfl, h1.res.bel, h1.res.le, h1.wn h2⟩

set_option maxRecDepth 100000 in
set_option maxHeartbeats 4000000 in
theorem zSub_c {w : World} {sa : Bool} {xa : Option Addr} {na ca : Nat} {da : Nat → Int} {sb : Bool} {xb : Option Addr} {nb cb : Nat} {db : Nat → Int} {u v : Int} (ha : Zn w sa xa na da u) (hb : Zn w sb xb nb db v) (hn : na ≤ 4096) (hm : nb ≤ 4096) :
    Calls Tryz.prog 72 #[.agg #[.bool sa, .slice xa na ca], .agg #[.bool sb, .slice xb nb cb]] w fun e w' => ZAns (na + nb + 1) w w' e (u - v) := by
  obtain ⟨ba, bb, ob, hw⟩ := zboxes (w := w) sa xa na ca sb xb nb cb 85
  have h1 := ((ha.alloc (.cells #[.bool sa, .slice xa na ca] 85)).alloc (.cells #[.bool sb, .slice xb nb cb] 85)).alloc (.cells #[.bool false, .slice none 0 0] 85)
  have h2 := ((hb.alloc (.cells #[.bool sa, .slice xa na ca] 85)).alloc (.cells #[.bool sb, .slice xb nb cb] 85)).alloc (.cells #[.bool false, .slice none 0 0] 85)
  clear ha hb
  go_enter Tryz.func72, Tryz.ntmps72
  go_wp2_with fail
  generalize ((w.alloc (.cells #[.bool sa, .slice xa na ca] 85)).alloc (.cells #[.bool sb, .slice xb nb cb] 85)).alloc (.cells #[.bool false, .slice none 0 0] 85) = w1 at *
  have HA := hid h1; have HB := hid h2; have HW := hid hw
  obtain ⟨za, a0, a1⟩ := ba
  obtain ⟨zb, b0, b1⟩ := bb
  obtain ⟨hz, z0, z1, zf⟩ := id ob
  clear h1 h2 hw
  have C1 : Hid (∀ W, Below w1.heap.size w1 W → Calls Tryz.prog 75 #[.agg #[.bool sb, .slice xb nb cb]] W fun e w' => ∃ s c, e = .returned (.agg #[.bool s, .slice xb nb c]) ∧ Below W.heap.size W w' ∧ Hid (Zn w' s xb nb db (-v))) := fun W hW => zNeg_c (HB.out.below hW) hm
  have C2 : Hid (∀ (W : World) (s : Bool) (c : Nat), Below w1.heap.size w1 W → Zn W s xb nb db (-v) → Calls Tryz.prog 71 #[.agg #[.bool sa, .slice xa na ca], .agg #[.bool s, .slice xb nb c]] W fun e w' => ∃ s x n c d, e = .returned (.agg #[.bool s, .slice x n c]) ∧ Below W.heap.size W w' ∧ Hid (n ≤ na + nb + 1 ∧ Zn w' s x n d (u - v))) := fun W s c hW h2 => (zAdd_c (HA.out.below hW) h2 hn hm).mono (fun e w' ⟨s, x, n, c, d, h1, h2, h3, h4⟩ => ⟨s, x, n, c, d, h1, h2, h3, by rw [← Int.sub_eq_add_neg] at h4; exact h4⟩)
  go_wp2_with fail
  go_region_held3 (fun w' => w'.cell? ⟨w.heap.size, 0, none⟩ = some (.bool sa) ∧ w'.cell? ⟨w.heap.size, 1, none⟩ = some (.slice xa na ca) ∧ w'.cell? ⟨w.heap.size + 1, 0, none⟩ = some (.bool sb) ∧ w'.cell? ⟨w.heap.size + 1, 1, none⟩ = some (.slice xb nb cb) ∧ (w'.cell? ⟨w.heap.size + 1 + 1, 0, none⟩).isSome = true ∧ (w'.cell? ⟨w.heap.size + 1 + 1, 1, none⟩).isSome = true ∧ w'.frozen? ⟨w.heap.size + 1 + 1, 0, none⟩ = false ∧ w'.frozen? ⟨w.heap.size + 1 + 1, 1, none⟩ = false)
    (refine ⟨?_, ?_, ?_, ?_, ?_, ?_, ?_, ?_⟩ <;> repeat (with_reducible first | assumption | exact zf _ | exact kI0 z0 | exact kI0 z1 | exact tf _ | exact kI0 t0 | exact kI0 t1 | exact uf _ | exact kI0 u0 | exact kI0 u1 | refine kCd ?_ | refine kId ?_ | refine kFd ?_ | refine kCs (by simp only [ne_eq]; omega) ?_ | refine kIs ?_ | refine kFs ?_ | refine kCb (by assumption) ?_ | refine kIb (by assumption) ?_))
    (first
      | (go_at_call 75; with_reducible refine (C1.out _ (by repeat (with_reducible first | assumption | exact Below.refl _ _ | refine Below.drew ?_ | refine kBa ?_ | refine kBb (by assumption) ?_))).mono ?_; rintro e v5 ⟨sp, cp, rfl, hv5, HP⟩; have TU : Ob2 v5 (w.heap.size + 1 + 1) := (by repeat (with_reducible first | exact ob | exact TU | exact TV | refine Ob2.drew ?_ | refine kO2b (by assumption) ?_)); obtain ⟨_, t0, t1, tf⟩ := id TU)
      | (go_at_call 71; with_reducible refine (C2.out _ sp cp (by repeat (with_reducible first | assumption | exact Below.refl _ _ | refine Below.drew ?_ | refine kBa ?_ | refine kBb (by assumption) ?_)) HP.out).mono ?_; rintro e v6 ⟨sq, xq, nq, cq, dq, rfl, hv6, HQ⟩; have TV : Ob2 v6 (w.heap.size + 1 + 1) := (by repeat (with_reducible first | exact ob | exact TU | exact TV | refine Ob2.drew ?_ | refine kO2b (by assumption) ?_)); obtain ⟨_, u0, u1, uf⟩ := id TV))
  have hb : Below w1.heap.size w1 v6 := (by repeat (with_reducible first | assumption | exact Below.refl _ _ | refine Below.drew ?_ | refine kBa ?_ | refine kBb (by assumption) ?_))
  go_wp2
  exact bodyPost_ret (v := .agg #[.bool sq, .slice xq nq cq]) (by simp [results, Tryz.results72, go_sem, u0, u1]) rfl ⟨sq, xq, nq, cq, dq, rfl, below_st2 (HW.out.trans (hb.mono HW.out.size)) (by omega), HQ.out.1, TV.dn HQ.out.2.dn, HQ.out.2.sgn, HQ.out.2.pos⟩
theorem zSign_c {w : World} {sa : Bool} {xa : Option Addr} {na ca : Nat} {da : Nat → Int} {u : Int} (ha : Zn w sa xa na da u) (hn : na ≤ 100000) :
    Calls Tryz.prog 102 #[.agg #[.bool sa, .slice xa na ca]] w fun e w' => ∃ c, e = .returned (.int .i64 c) ∧ Below w.heap.size w w' ∧ Ord c u 0 := by
  have hbe := below_alloc (Below.refl w.heap.size w) (.cells #[.bool sa, .slice xa na ca] 85)
  have hsg := ha.sgn
  rcases Nat.eq_zero_or_pos na with h0 | h0
  · subst h0
    have hz := ha.dn.zero
    have hu : u = 0 := by omega
    subst hu
    clear ha hsg hz
    go_enter Tryz.func102, Tryz.ntmps102
    go_wp2
    go_ret
    exact ⟨0, rfl, hbe, .inr (.inl ⟨rfl, rfl⟩)⟩
  · have hp := ha.dn.pos' h0
    have hn0 : ((na : Int) == 0) = false := by simp; omega
    cases sa
    · have e : u = u.natAbs := hsg
      have hu : 0 < u := by omega
      clear ha hsg e
      go_enter Tryz.func102, Tryz.ntmps102
      go_wp2
      go_ret
      exact ⟨1, rfl, hbe, .inr (.inr ⟨rfl, hu⟩)⟩
    · have e : u = -(u.natAbs : Int) := hsg
      have hu : u < 0 := by omega
      clear ha hsg e
      go_enter Tryz.func102, Tryz.ntmps102
      go_wp2
      go_ret
      exact ⟨-1, rfl, hbe, .inl ⟨rfl, hu⟩⟩
set_option maxHeartbeats 1000000 in
theorem zCmp_c {w : World} {sa : Bool} {xa : Option Addr} {na ca : Nat} {da : Nat → Int} {sb : Bool} {xb : Option Addr} {nb cb : Nat} {db : Nat → Int} {u v : Int} (ha : Zn w sa xa na da u) (hb : Zn w sb xb nb db v) (hn : na ≤ 4096) (hm : nb ≤ 4096) :
    Calls Tryz.prog 76 #[.agg #[.bool sa, .slice xa na ca], .agg #[.bool sb, .slice xb nb cb]] w fun e w' => ∃ c, e = .returned (.int .i64 c) ∧ Below w.heap.size w w' ∧ Ord c u v := by
  have HA := hid ha; have HB := hid hb
  clear ha hb
  go_enter Tryz.func76, Tryz.ntmps76
  go_wp2_with fail
  refine (zSub_c ((HA.out.alloc _).alloc _) ((HB.out.alloc _).alloc _) hn hm).mono ?_
  rintro e w1 ⟨s, x, n, c, d, rfl, hb, hle, hz⟩
  have HZ := hid hz; have HW1 : Hid (Below w.heap.size w w1) := (below_alloc (below_alloc (Below.refl w.heap.size w) _) _).trans (hb.mono (by simp; omega))
  clear hz hb
  go_wp2_with fail
  refine (zSign_c HZ.out (by omega)).mono ?_
  rintro e w2 ⟨cc, rfl, hb, ho⟩
  have HO := hid ho
  clear ho
  go_wp2
  go_ret
  refine ⟨cc, rfl, HW1.out.trans (hb.mono HW1.out.size), ?_⟩
  rcases HO.out with ⟨h1, h2⟩ | ⟨h1, h2⟩ | ⟨h1, h2⟩
  · exact .inl ⟨h1, by omega⟩
  · exact .inr (.inl ⟨h1, by omega⟩)
  · exact .inr (.inr ⟨h1, by omega⟩)
/-- The error of two numbers. -/
def e2 (s : Bool) (f : Nat → Int) (n : Nat) (t : Bool) (h : Nat → Int) (m : Nat) : Int := if wfB s f n && wfB t h m then 0 else 3
set_option maxHeartbeats 1000000 in
theorem rtwo_c (s t : Bool) (x y : Option Addr) (n m c d : Nat) (f h : Nat → Int) (w : World) (hr : Rd .u64 w x n f) (hs : Rd .u64 w y m h) (hn : n ≤ 4096) (hm : m ≤ 4096) :
    Calls Tryz.prog 69 #[.agg #[.bool s, .slice x n c], .agg #[.bool t, .slice y m d]] w fun e w' => e = .returned (.int .i64 (e2 s f n t h m)) ∧ Below w.heap.size w w' := by
  have HR := hid hr; have HS := hid hs
  clear hr hs
  go_enter Tryz.func69, Tryz.ntmps69
  go_wp2_with fail
  refine (rwForm_c s x n c f _ (by omega) ((HR.out.alloc _).alloc _)).mono ?_
  rintro e w1 ⟨rfl, hb⟩
  obtain ⟨⟨hz, x0, x1, y0, y1⟩, _, hw⟩ := boxes2' hb
  have HW1 := hid hw
  clear hb hw
  cases h1 : wfB s f n
  · have E : Hid (e2 s f n t h m = 3) := hid (by simp [e2, h1])
    go_wp2
    go_ret
    exact ⟨by rw [E.out]; rfl, HW1.out⟩
  · have F1 := hid h1
    clear h1
    go_wp2_with fail
    refine (rwForm_c t y m d h _ (by omega) (HS.out.below HW1.out (Nat.le_refl _))).mono ?_
    rintro e w2 ⟨rfl, hb⟩
    have HW2 := hid (HW1.out.trans (hb.mono HW1.out.size))
    clear hb
    cases h2 : wfB t h m
    · have E : Hid (e2 s f n t h m = 3) := hid (by simp [e2, h2])
      go_wp2
      go_ret
      exact ⟨by rw [E.out]; rfl, HW2.out⟩
    · have E : Hid (e2 s f n t h m = 0) := hid (by simp [e2, h2, F1.out])
      go_wp2
      go_ret
      exact ⟨by rw [E.out]; rfl, HW2.out⟩
end Go.Proofs.YtgklbedaebiglaaGreatDoor
namespace Go.Proofs.YtgklbedaebiglaaGreatDoor
open Go.RowKit

/-- What a call answers: a number, or an error. -/
def WGot (L : Nat) (w w' : World) (e : Ending) (p : Bool) (v : Int) : Prop := ∃ r z k c f, e = .returned (.tuple #[.agg #[.bool r, .slice z k c], .int .i64 (if p then 0 else 3)]) ∧ Below w.heap.size w w' ∧ k ≤ L ∧ Wn w' r z k c f (if p then v else 0)
/-- What Cmp answers: an order, or an error. -/
def CmpGot (w w' : World) (e : Ending) (p : Bool) (u v : Int) : Prop := ∃ c, e = .returned (.tuple #[.int .i64 c, .int .i64 (if p then 0 else 3)]) ∧ Below w.heap.size w w' ∧ (if p then Ord c u v else c = 0)
def kv (kind : Nat) (u v : Int) : Int := if kind = 0 then u + v else if kind = 1 then u - v else u * v
theorem wn_none (w : World) (v : Int) : Wn w false none 0 0 (fun _ => 0) (if false = true then v else 0) := ⟨Rd.zero, fun j hj => by omega, by decide, by omega, fun _ => ⟨rfl, rfl⟩, rfl⟩
theorem kBs' {w0 w : World} {p : Addr} {v : Value} (hB : w0.heap.size ≤ p.block) (h : Below w0.heap.size w0 w) : Below w0.heap.size w0 (w.setCell p v) :=
  below_turned h h.size ((Turned.refl w0.heap.size (p.block + 1) w).set hB (Nat.lt_succ_self _) v) (Nat.le_refl _)
theorem kZd {w s x n d v} (h : Zn w s x n d v) : Zn w.drew s x n d v := ⟨h.dn.drew, h.sgn, h.pos⟩
theorem kZa {w s x n d v} {o : Obj} (h : Zn w s x n d v) : Zn (w.alloc o) s x n d v := h.alloc o
theorem kZb {w w' s x n d v} (hb : Below w.heap.size w w') (h : Zn w s x n d v) : Zn w' s x n d v := h.below hb
theorem ob2_at {w : World} {t : TypeId} {B : Nat} (h : B = w.heap.size) : Ob2 (w.alloc (.cells #[.bool false, .slice none 0 0] t)) B := by subst h; exact ob2_new w t
theorem kO2a {w : World} {B : Nat} {o : Obj} (h : Ob2 w B) : Ob2 (w.alloc o) B := h.alloc o
theorem kO2s {w : World} {B : Nat} {p : Addr} {v : Value} (hp : p.block ≠ B) (h : Ob2 w B) : Ob2 (w.setCell p v) B := ⟨by simpa [World.setCell] using h.z, kCs hp h.z0, kCs hp h.z1, fun o => kFs (h.zf o)⟩
theorem kZo {w B u0 u1 s x n d v} (h : Ob2 w B) (hx : Zn w s x n d v) : Zn ((w.setCell ⟨B, 0, none⟩ u0).setCell ⟨B, 1, none⟩ u1) s x n d v := ⟨h.dn hx.dn, hx.sgn, hx.pos⟩
theorem kZ0 {w : World} {b : Nat} {u : Value} {s x n d v} (hp : w.cell? ⟨b, 0, none⟩ = some (.bool false)) (h : Zn w s x n d v) : Zn (w.setCell ⟨b, 0, none⟩ u) s x n d v := ⟨⟨rd_setne hp (fun i h => by cases h) h.dn.rd, h.dn.dg, h.dn.fm, h.dn.val⟩, h.sgn, h.pos⟩
theorem kZ1 {w : World} {b : Nat} {u : Value} {s x n d v} (hp : w.cell? ⟨b, 1, none⟩ = some (.slice none 0 0)) (h : Zn w s x n d v) : Zn (w.setCell ⟨b, 1, none⟩ u) s x n d v := ⟨⟨rd_setne hp (fun i h => by cases h) h.dn.rd, h.dn.dg, h.dn.fm, h.dn.val⟩, h.sgn, h.pos⟩

set_option maxRecDepth 100000 in
set_option maxHeartbeats 4000000 in
theorem docNeg_g (s : Bool) (x : Option Addr) (n c : Nat) (f : Nat → Int) (w : World) (hr : Rd .u64 w x n f) (hf : Lm f n) (hc : n ≤ c ∧ c ≤ 9223372036854775807) (hnil : x = none → n = 0 ∧ c = 0) (hn : n ≤ 1000) :
    Calls Tryz.prog 39 #[.agg #[.bool s, .slice x n c]] w fun e w' => WGot 4096 w w' e (wfB s f n) (- wv s f n) := by
  have HR := hid hr; have HF := hid hf; have HN := hid hnil
  clear hr hf hnil
  go_enter Tryz.func39, Tryz.ntmps39
  go_wp2_with fail
  refine (rwForm_c s x n c f _ (by omega) ((HR.out.alloc _).alloc _)).mono ?_
  rintro e w1 ⟨rfl, hbel⟩
  have hbx : Bx w1 w.heap.size s x n c := (Bx.alloc (⟨by simp, kN0, kN1⟩ : Bx (w.alloc (.cells #[.bool s, .slice x n c] 24)) w.heap.size s x n c) _).below hbel
  have hob := (ob2_new (w.alloc _) _).below hbel
  rw [size_alloc1] at hob
  have HW1 : Hid (Below w.heap.size w w1) := (below_alloc (below_alloc (Below.refl w.heap.size w) _) _).trans (hbel.mono (by simp; omega))
  have OB1 := hid hob
  clear hbel hob
  obtain ⟨za, a0, a1⟩ := hbx
  cases h1 : wfB s f n
  · obtain ⟨hz, z0, z1, zf⟩ := OB1.out
    go_wp2
    exact bodyPost_ret (v := .tuple #[.agg #[.bool false, .slice none 0 0], .int .i64 3]) (by simp [results, Tryz.results39, go_sem, z0, z1]) rfl ⟨false, none, 0, 0, fun _ => 0, by rw [h1]; rfl, below_st2 HW1.out (by omega), by omega, by rw [h1]; exact wn_none _ _⟩
  · have F1 := hid h1
    clear h1
    have W1 : Hid (Wn w1 s x n c f (wv s f n)) := ⟨HR.out.below HW1.out (Nat.le_refl _), HF.out, F1.out, hc, HN.out, rfl⟩
    go_wp2_with fail
    refine (zFromZ_c W1.out (by omega)).mono ?_
    rintro e w2 ⟨t, z, m, c', d, rfl, hb, HZ⟩
    have OB2 := hid (OB1.out.below hb); have HW2 := hid (HW1.out.trans (hb.mono HW1.out.size))
    have hm := HZ.out.1
    clear hb OB1 HW1 W1 za a0 a1
    go_wp2_with fail
    refine (zNeg_c HZ.out.2 (by omega)).mono ?_
    rintro e w3 ⟨t3, c3, rfl, hb, HZ3⟩
    have OB3 := hid (OB2.out.below hb); have HW3 := hid (HW2.out.trans (hb.mono HW2.out.size))
    clear hb OB2 HW2 HZ
    go_wp2_with fail
    refine (zToW_c HZ3.out (by omega)).mono ?_
    rintro e w4 ⟨r, y, k, cy, g, rfl, hb, HG⟩
    have OB4 := hid (OB3.out.below hb); have HW4 := hid (HW3.out.trans (hb.mono HW3.out.size))
    have hk := HG.out.1
    clear hb OB3 HW3 HZ3
    obtain ⟨hz, z0, z1, zf⟩ := OB4.out
    go_wp2
    exact bodyPost_ret (v := .tuple #[.agg #[.bool r, .slice y k cy], .int .i64 0]) (by simp [results, Tryz.results39, go_sem, z0, z1]) rfl ⟨r, y, k, cy, g, by rw [F1.out]; rfl, below_st2 HW4.out (by omega), by omega, by rw [F1.out]; exact OB4.out.wn HG.out.2⟩

set_option maxRecDepth 100000 in
set_option maxHeartbeats 4000000 in
theorem docCmp_g (sa : Bool) (xa : Option Addr) (na ca : Nat) (fa : Nat → Int) (sb : Bool) (xb : Option Addr) (nb cb : Nat) (fb : Nat → Int) (w : World) (hra : Rd .u64 w xa na fa) (hfa : Lm fa na) (hca : na ≤ ca ∧ ca ≤ 9223372036854775807) (hia : xa = none → na = 0 ∧ ca = 0) (hrb : Rd .u64 w xb nb fb) (hfb : Lm fb nb) (hcb : nb ≤ cb ∧ cb ≤ 9223372036854775807) (hib : xb = none → nb = 0 ∧ cb = 0) (hna : na ≤ 1000) (hnb : nb ≤ 1000) :
    Calls Tryz.prog 40 #[.agg #[.bool sa, .slice xa na ca], .agg #[.bool sb, .slice xb nb cb]] w fun e w' => CmpGot w w' e (wfB sa fa na && wfB sb fb nb) (wv sa fa na) (wv sb fb nb) := by
  have HRA := hid hra; have HFA := hid hfa; have HIA := hid hia; have HRB := hid hrb; have HFB := hid hfb; have HIB := hid hib
  clear hra hfa hia hrb hfb hib
  go_enter Tryz.func40, Tryz.ntmps40
  go_wp2_with fail
  refine (rtwo_c sa sb xa xb na nb ca cb fa fb _ ((HRA.out.alloc _).alloc _) ((HRB.out.alloc _).alloc _) (by omega) (by omega)).mono ?_
  rintro e w1 ⟨rfl, hbel⟩
  obtain ⟨⟨hz, x0, x1, y0, y1⟩, _, hw⟩ := boxes2' hbel
  have HW1 := hid hw
  clear hbel hw
  cases hp : (wfB sa fa na && wfB sb fb nb)
  · have E := hid (show e2 sa fa na sb fb nb = 3 by simp only [e2, hp]; rfl)
    rw [E.out]
    go_wp2
    go_ret2
    exact ⟨0, by rw [hp]; rfl, HW1.out, by rw [hp]; rfl⟩
  · have E := hid (show e2 sa fa na sb fb nb = 0 by simp only [e2, hp]; rfl)
    rw [E.out]
    have HP0 := hid hp
    have hq : wfB sa fa na = true ∧ wfB sb fb nb = true := by simpa using hp
    have WA : Hid (Wn w1 sa xa na ca fa (wv sa fa na)) := ⟨HRA.out.below HW1.out (Nat.le_refl _), HFA.out, hq.1, hca, HIA.out, rfl⟩
    have WB : Hid (Wn w1 sb xb nb cb fb (wv sb fb nb)) := ⟨HRB.out.below HW1.out (Nat.le_refl _), HFB.out, hq.2, hcb, HIB.out, rfl⟩
    clear hp hq
    have C1 : Hid (∀ W, Below w1.heap.size w1 W → Calls Tryz.prog 70 #[.agg #[.bool sa, .slice xa na ca]] W fun e w' => ∃ t z m c' d, e = .returned (.agg #[.bool t, .slice z m c']) ∧ Below W.heap.size W w' ∧ Hid (m ≤ 2 * na ∧ Zn w' t z m d (wv sa fa na))) := fun W hW => zFromZ_c (WA.out.below hW) (by omega)
    have C2 : Hid (∀ W, Below w1.heap.size w1 W → Calls Tryz.prog 70 #[.agg #[.bool sb, .slice xb nb cb]] W fun e w' => ∃ t z m c' d, e = .returned (.agg #[.bool t, .slice z m c']) ∧ Below W.heap.size W w' ∧ Hid (m ≤ 2 * nb ∧ Zn w' t z m d (wv sb fb nb))) := fun W hW => zFromZ_c (WB.out.below hW) (by omega)
    go_wp2_with fail
    go_region_held3 (fun w' => w'.cell? ⟨w.heap.size, 0, none⟩ = some (.bool sa) ∧ w'.cell? ⟨w.heap.size, 1, none⟩ = some (.slice xa na ca) ∧ w'.cell? ⟨w.heap.size + 1, 0, none⟩ = some (.bool sb) ∧ w'.cell? ⟨w.heap.size + 1, 1, none⟩ = some (.slice xb nb cb))
      (refine ⟨?_, ?_, ?_, ?_⟩ <;> repeat (with_reducible first | assumption | refine kCd ?_ | refine kCa ?_ | refine kCb (by assumption) ?_))
      (first
        | (go_at_call 70; with_reducible refine (C1.out _ (by repeat (with_reducible first | assumption | exact Below.refl _ _ | refine Below.drew ?_ | refine kBa ?_ | refine kBb (by assumption) ?_))).mono ?_; rintro e v5 ⟨s5, z5, m5, c5, d5, rfl, hv5, HP⟩)
        | (go_at_call 70; with_reducible refine (C2.out _ (by repeat (with_reducible first | assumption | exact Below.refl _ _ | refine Below.drew ?_ | refine kBa ?_ | refine kBb (by assumption) ?_))).mono ?_; rintro e v6 ⟨s6, z6, m6, c6, d6, rfl, hv6, HQ⟩)
        | (go_at_call 76; with_reducible refine (zCmp_c (HP.out.2.below hv6) HQ.out.2 (by have := HP.out.1; omega) (by have := HQ.out.1; omega)).mono ?_; rintro e v7 ⟨cc, rfl, hv7, ho⟩))
    have HO := hid ho
    clear ho
    have hb : Below w1.heap.size w1 v7 := (by repeat (with_reducible first | assumption | exact Below.refl _ _ | refine Below.drew ?_ | refine kBa ?_ | refine kBb (by assumption) ?_))
    go_wp2
    go_ret2
    exact ⟨cc, by rw [HP0.out]; rfl, HW1.out.trans (hb.mono HW1.out.size), by rw [HP0.out]; exact HO.out⟩
end Go.Proofs.YtgklbedaebiglaaGreatDoor
namespace Go.Proofs.YtgklbedaebiglaaGreatDoor
open Go.RowKit

/-- The two numbers as the reference holds them. -/
structure DAt (w1 wx : World) (b9 b10 : Nat) (s5 : Bool) (z5 : Option Addr) (m5 c5 : Nat) (s6 : Bool) (z6 : Option Addr) (m6 c6 : Nat) (u v : Int) (L M : Nat) : Prop where
  bx : Bx wx b9 s5 z5 m5 c5
  by' : Bx wx b10 s6 z6 m6 c6
  bel : Below w1.heap.size w1 wx
  zu : ∃ d, Zn wx s5 z5 m5 d u
  zv : ∃ d, Zn wx s6 z6 m6 d v
  lu : m5 ≤ 2 * L
  lv : m6 ≤ 2 * M
set_option maxRecDepth 100000 in
set_option maxHeartbeats 8000000 in
theorem doc_g (kind : Nat) (hk : kind < 3) (sa : Bool) (xa : Option Addr) (na ca : Nat) (fa : Nat → Int) (sb : Bool) (xb : Option Addr) (nb cb : Nat) (fb : Nat → Int) (w : World) (hra : Rd .u64 w xa na fa) (hfa : Lm fa na) (hca : na ≤ ca ∧ ca ≤ 9223372036854775807) (hia : xa = none → na = 0 ∧ ca = 0) (hrb : Rd .u64 w xb nb fb) (hfb : Lm fb nb) (hcb : nb ≤ cb ∧ cb ≤ 9223372036854775807) (hib : xb = none → nb = 0 ∧ cb = 0) (hna : na ≤ 1000) (hnb : nb ≤ 1000) :
    Calls Tryz.prog 37 #[.int .i64 kind, .agg #[.bool sa, .slice xa na ca], .agg #[.bool sb, .slice xb nb cb]] w fun e w' => WGot 8192 w w' e (wfB sa fa na && wfB sb fb nb) (kv kind (wv sa fa na) (wv sb fb nb)) := by
  have HRA := hid hra; have HFA := hid hfa; have HIA := hid hia; have HRB := hid hrb; have HFB := hid hfb; have HIB := hid hib
  clear hra hfa hia hrb hfb hib
  go_enter Tryz.func37, Tryz.ntmps37
  go_wp2_with fail
  refine (rtwo_c sa sb xa xb na nb ca cb fa fb _ (((HRA.out.alloc _).alloc _).alloc _) (((HRB.out.alloc _).alloc _).alloc _) (by omega) (by omega)).mono ?_
  rintro e w1 ⟨rfl, hbel⟩
  obtain ⟨ba, bb, ob, hw⟩ := zboxes (w := w) sa xa na ca sb xb nb cb 24
  have BA := hid (ba.below hbel); have BB := hid (bb.below hbel); have OB := hid (ob.below hbel); have HW1 := hid (hw.trans (hbel.mono hw.size))
  clear hbel ba bb ob hw
  cases hp : (wfB sa fa na && wfB sb fb nb)
  · have E := hid (show e2 sa fa na sb fb nb = 3 by simp only [e2, hp]; rfl)
    rw [E.out]
    obtain ⟨hz, z0, z1, zf⟩ := OB.out
    go_wp2
    exact bodyPost_ret (v := .tuple #[.agg #[.bool false, .slice none 0 0], .int .i64 3]) (by simp [results, Tryz.results37, go_sem, z0, z1]) rfl ⟨false, none, 0, 0, fun _ => 0, by rw [hp]; rfl, below_st2 HW1.out (by omega), by omega, by rw [hp]; exact wn_none _ _⟩
  · have E := hid (show e2 sa fa na sb fb nb = 0 by simp only [e2, hp]; rfl)
    rw [E.out]
    have HP0 := hid hp
    have hq : wfB sa fa na = true ∧ wfB sb fb nb = true := by simpa using hp
    have WA : Hid (Wn w1 sa xa na ca fa (wv sa fa na)) := ⟨HRA.out.below HW1.out (Nat.le_refl _), HFA.out, hq.1, hca, HIA.out, rfl⟩
    have WB : Hid (Wn w1 sb xb nb cb fb (wv sb fb nb)) := ⟨HRB.out.below HW1.out (Nat.le_refl _), HFB.out, hq.2, hcb, HIB.out, rfl⟩
    clear hp hq
    generalize hu : wv sa fa na = u at *
    generalize hv : wv sb fb nb = v at *
    have HU := hid hu; have HV := hid hv
    clear hu hv
    obtain ⟨za, x0, x1⟩ := BA.out
    obtain ⟨zb, y0, y1⟩ := BB.out
    have C1 : Hid (∀ W, Below w1.heap.size w1 W → Calls Tryz.prog 70 #[.agg #[.bool sa, .slice xa na ca]] W fun e w' => ∃ t z m c' d, e = .returned (.agg #[.bool t, .slice z m c']) ∧ Below W.heap.size W w' ∧ Hid (m ≤ 2 * na ∧ Zn w' t z m d u)) := fun W hW => zFromZ_c (WA.out.below hW) (by omega)
    have C2 : Hid (∀ W, Below w1.heap.size w1 W → Calls Tryz.prog 70 #[.agg #[.bool sb, .slice xb nb cb]] W fun e w' => ∃ t z m c' d, e = .returned (.agg #[.bool t, .slice z m c']) ∧ Below W.heap.size W w' ∧ Hid (m ≤ 2 * nb ∧ Zn w' t z m d v)) := fun W hW => zFromZ_c (WB.out.below hW) (by omega)
    go_upto_region 4 with fail
    go_cut [9, 10] from 18 to 21 (fun p q wx => ∃ (wy : World) (b9 b10 : Nat) (s5 : Bool) (z5 : Option Addr) (m5 c5 : Nat) (s6 : Bool) (z6 : Option Addr) (m6 c6 : Nat), wy = wx ∧ p = .pointer (some ⟨b9, 0, none⟩) ∧ q = .pointer (some ⟨b10, 0, none⟩) ∧ DAt w1 wy b9 b10 s5 z5 m5 c5 s6 z6 m6 c6 u v na nb)
    case first =>
      go_region_held3 (fun w' => w'.cell? ⟨w.heap.size, 0, none⟩ = some (.bool sa) ∧ w'.cell? ⟨w.heap.size, 1, none⟩ = some (.slice xa na ca) ∧ w'.cell? ⟨w.heap.size + 1, 0, none⟩ = some (.bool sb) ∧ w'.cell? ⟨w.heap.size + 1, 1, none⟩ = some (.slice xb nb cb))
        (refine ⟨?_, ?_, ?_, ?_⟩ <;> repeat (with_reducible first | assumption | refine kCd ?_ | refine kCa ?_ | refine kCs (by simp only [ne_eq]; omega) ?_ | refine kCb (by assumption) ?_))
        (first
          | (go_at_call 70; with_reducible refine (C1.out _ (by repeat (with_reducible first | assumption | exact Below.refl _ _ | refine Below.drew ?_ | refine kBa ?_ | refine kBb (by assumption) ?_))).mono ?_; rintro e v5 ⟨s5, z5, m5, c5, d5, rfl, hb5, HP⟩; have hzi := hb5.size; (try simp at hzi); obtain ⟨hc5, hf5⟩ := bcell hb5; (try have q100 : w1.heap.size < v5.heap.size := by omega); (try have q101 : w1.heap.size + 1 < v5.heap.size := by omega))
          | (go_at_call 70; with_reducible refine (C2.out _ (by repeat (with_reducible first | assumption | exact Below.refl _ _ | refine Below.drew ?_ | refine kBa ?_ | refine kBb (by assumption) ?_))).mono ?_; rintro e v6 ⟨s6, z6, m6, c6, d6, rfl, hb6, HQ⟩; have hzj := hb6.size; (try simp at hzj); obtain ⟨hc6, hf6⟩ := bcell hb6; (try have q100 : w1.heap.size < v6.heap.size := by omega); (try have q101 : w1.heap.size + 1 < v6.heap.size := by omega); (try have q102 : v5.heap.size < v6.heap.size := by omega); (try have q103 : v5.heap.size + 1 < v6.heap.size := by omega)))
      all_goals
        go_wp2_with fail
        go_meet
        refine ⟨_, _, _, s5, z5, m5, c5, s6, z6, m6, c6, rfl, rfl, rfl, ⟨(by first | omega | (simp; done) | (simp; omega)), (by repeat (with_reducible first | assumption | exact kN0 | exact kN1 | (refine kM0 ?_; (simp <;> fail)) | (refine kM1 ?_; (simp <;> fail)) | exact kI0 kN0 | exact kI0 kN1 | (refine kI0 (kM0 ?_); (simp <;> fail)) | (refine kI0 (kM1 ?_); (simp <;> fail)) | refine kCd ?_ | refine kCe ?_ | refine kCo (by decide) ?_ | refine kCs (by simp only [ne_eq]; omega) ?_ | refine kCa ?_ | refine kCb (by assumption) ?_ | refine kId ?_ | refine kIs ?_ | refine kIa ?_ | refine kIb (by assumption) ?_)), (by repeat (with_reducible first | assumption | exact kN0 | exact kN1 | (refine kM0 ?_; (simp <;> fail)) | (refine kM1 ?_; (simp <;> fail)) | exact kI0 kN0 | exact kI0 kN1 | (refine kI0 (kM0 ?_); (simp <;> fail)) | (refine kI0 (kM1 ?_); (simp <;> fail)) | refine kCd ?_ | refine kCe ?_ | refine kCo (by decide) ?_ | refine kCs (by simp only [ne_eq]; omega) ?_ | refine kCa ?_ | refine kCb (by assumption) ?_ | refine kId ?_ | refine kIs ?_ | refine kIa ?_ | refine kIb (by assumption) ?_))⟩, ⟨(by first | omega | (simp; done) | (simp; omega)), (by repeat (with_reducible first | assumption | exact kN0 | exact kN1 | (refine kM0 ?_; (simp <;> fail)) | (refine kM1 ?_; (simp <;> fail)) | exact kI0 kN0 | exact kI0 kN1 | (refine kI0 (kM0 ?_); (simp <;> fail)) | (refine kI0 (kM1 ?_); (simp <;> fail)) | refine kCd ?_ | refine kCe ?_ | refine kCo (by decide) ?_ | refine kCs (by simp only [ne_eq]; omega) ?_ | refine kCa ?_ | refine kCb (by assumption) ?_ | refine kId ?_ | refine kIs ?_ | refine kIa ?_ | refine kIb (by assumption) ?_)), (by repeat (with_reducible first | assumption | exact kN0 | exact kN1 | (refine kM0 ?_; (simp <;> fail)) | (refine kM1 ?_; (simp <;> fail)) | exact kI0 kN0 | exact kI0 kN1 | (refine kI0 (kM0 ?_); (simp <;> fail)) | (refine kI0 (kM1 ?_); (simp <;> fail)) | refine kCd ?_ | refine kCe ?_ | refine kCo (by decide) ?_ | refine kCs (by simp only [ne_eq]; omega) ?_ | refine kCa ?_ | refine kCb (by assumption) ?_ | refine kId ?_ | refine kIs ?_ | refine kIa ?_ | refine kIb (by assumption) ?_))⟩, (by repeat (with_reducible first | assumption | exact Below.refl _ _ | refine Below.drew ?_ | refine kBa ?_ | refine kBs' (by first | omega | (simp; done) | (simp; omega)) ?_ | refine kBb (by assumption) ?_)), ⟨d5, (by repeat (with_reducible first | exact HP.out.2 | exact HQ.out.2 | refine kZd ?_ | refine kZa ?_ | refine kZo (by repeat (with_reducible first | exact ob2_at rfl | (refine ob2_at ?_; (simp <;> fail)) | refine Ob2.drew ?_ | refine kO2a ?_ | refine kO2s (by simp only [ne_eq]; omega) ?_ | refine kO2b (by assumption) ?_)) ?_ | refine kZb (by assumption) ?_))⟩, ⟨d6, (by repeat (with_reducible first | exact HP.out.2 | exact HQ.out.2 | refine kZd ?_ | refine kZa ?_ | refine kZo (by repeat (with_reducible first | exact ob2_at rfl | (refine ob2_at ?_; (simp <;> fail)) | refine Ob2.drew ?_ | refine kO2a ?_ | refine kO2s (by simp only [ne_eq]; omega) ?_ | refine kO2b (by assumption) ?_)) ?_ | refine kZb (by assumption) ?_))⟩, HP.out.1, HQ.out.1⟩
    case rest =>
      obtain ⟨w2, b9, b10, s5, z5, m5, c5, s6, z6, m6, c6, rfl, rfl, rfl, hb9, hb10, hb, ⟨d5, hz5⟩, ⟨d6, hz6⟩, hl5, hl6⟩ := hcut
      have OB2' := hid (OB.out.below hb); have HW2 := hid (HW1.out.trans (hb.mono HW1.out.size)); have Z5 := hid hz5; have Z6 := hid hz6
      clear hb hz5 hz6 OB HW1 BA BB za zb x0 x1 y0 y1 C1 C2
      obtain ⟨za, x0, x1⟩ := hb9
      obtain ⟨zb, y0, y1⟩ := hb10
      rcases (show kind = 0 ∨ kind = 1 ∨ kind = 2 by omega) with rfl | rfl | rfl
      · go_wp2_with fail
        refine (zAdd_c Z5.out Z6.out (by omega) (by omega)).mono ?_
        rintro e w3 ⟨s7, z7, m7, c7, d7, rfl, hb, hl7, hz7⟩
        have OB3 := hid (OB2'.out.below hb); have HW3 := hid (HW2.out.trans (hb.mono HW2.out.size)); have Z7 := hid hz7
        clear hb hz7 OB2' HW2 za zb x0 x1 y0 y1
        go_wp2_with fail
        refine (zToW_c Z7.out (by omega)).mono ?_
        rintro e w4 ⟨r, y, k, cy, g, rfl, hb, HG⟩
        have OB4 := hid (OB3.out.below hb); have HW4 := hid (HW3.out.trans (hb.mono HW3.out.size))
        have hk := HG.out.1
        clear hb OB3 HW3 Z7
        obtain ⟨hz, z0, z1, zf⟩ := OB4.out
        go_wp2
        exact bodyPost_ret (v := .tuple #[.agg #[.bool r, .slice y k cy], .int .i64 0]) (by simp [results, Tryz.results37, go_sem, z0, z1]) rfl ⟨r, y, k, cy, g, by rw [HP0.out]; rfl, below_st2 HW4.out (by omega), by omega, by rw [HP0.out, HU.out, HV.out]; exact OB4.out.wn HG.out.2⟩
      · go_wp2_with fail
        refine (zSub_c Z5.out Z6.out (by omega) (by omega)).mono ?_
        rintro e w3 ⟨s7, z7, m7, c7, d7, rfl, hb, hl7, hz7⟩
        have OB3 := hid (OB2'.out.below hb); have HW3 := hid (HW2.out.trans (hb.mono HW2.out.size)); have Z7 := hid hz7
        clear hb hz7 OB2' HW2 za zb x0 x1 y0 y1
        go_wp2_with fail
        refine (zToW_c Z7.out (by omega)).mono ?_
        rintro e w4 ⟨r, y, k, cy, g, rfl, hb, HG⟩
        have OB4 := hid (OB3.out.below hb); have HW4 := hid (HW3.out.trans (hb.mono HW3.out.size))
        have hk := HG.out.1
        clear hb OB3 HW3 Z7
        obtain ⟨hz, z0, z1, zf⟩ := OB4.out
        go_wp2
        exact bodyPost_ret (v := .tuple #[.agg #[.bool r, .slice y k cy], .int .i64 0]) (by simp [results, Tryz.results37, go_sem, z0, z1]) rfl ⟨r, y, k, cy, g, by rw [HP0.out]; rfl, below_st2 HW4.out (by omega), by omega, by rw [HP0.out, HU.out, HV.out]; exact OB4.out.wn HG.out.2⟩
      · go_wp2_with fail
        refine (zMul_c Z5.out Z6.out (by omega) (by omega)).mono ?_
        rintro e w3 ⟨s7, z7, m7, c7, d7, rfl, hb, hl7, hz7⟩
        have OB3 := hid (OB2'.out.below hb); have HW3 := hid (HW2.out.trans (hb.mono HW2.out.size)); have Z7 := hid hz7
        clear hb hz7 OB2' HW2 za zb x0 x1 y0 y1
        go_wp2_with fail
        refine (zToW_c Z7.out (by omega)).mono ?_
        rintro e w4 ⟨r, y, k, cy, g, rfl, hb, HG⟩
        have OB4 := hid (OB3.out.below hb); have HW4 := hid (HW3.out.trans (hb.mono HW3.out.size))
        have hk := HG.out.1
        clear hb OB3 HW3 Z7
        obtain ⟨hz, z0, z1, zf⟩ := OB4.out
        go_wp2
        exact bodyPost_ret (v := .tuple #[.agg #[.bool r, .slice y k cy], .int .i64 0]) (by simp [results, Tryz.results37, go_sem, z0, z1]) rfl ⟨r, y, k, cy, g, by rw [HP0.out]; rfl, below_st2 HW4.out (by omega), by omega, by rw [HP0.out, HU.out, HV.out]; exact OB4.out.wn HG.out.2⟩
end Go.Proofs.YtgklbedaebiglaaGreatDoor
namespace Go.Proofs.YtgklbedaebiglaaGreatDoor
open Go.RowKit

theorem got_of {C w w' r z k c f er} {s t : Bool} {fa fb : Nat → Int} {n m : Nat} {v : Int} (h : WRes C w w' r z k c f) (ha : WAns (W2 s fa n t fb m) v r k f er) : er = (if (wfB s fa n && wfB t fb m) then 0 else 3) ∧ Wn w' r z k c f (if (wfB s fa n && wfB t fb m) then v else 0) := by
  rcases ha with ⟨h1, h2, h3⟩ | ⟨h1, h2, h3⟩
  · have e : (wfB s fa n && wfB t fb m) = true := by simp [h1.1, h1.2]
    rw [e]
    exact ⟨h2, h.wn h3⟩
  · have e : (wfB s fa n && wfB t fb m) = false := by
      cases h4 : wfB s fa n
      · rfl
      · cases h5 : wfB t fb m
        · rfl
        · exact absurd ⟨h4, h5⟩ h1
    rw [e]
    refine ⟨h2, h.wn ?_⟩
    subst h3
    cases r <;> rfl
set_option maxRecDepth 100000 in
set_option maxHeartbeats 4000000 in
theorem call_g (kind : Nat) (hk : kind < 3) (sa : Bool) (xa : Option Addr) (na ca : Nat) (fa : Nat → Int) (sb : Bool) (xb : Option Addr) (nb cb : Nat) (fb : Nat → Int) (w : World) (hra : Rd .u64 w xa na fa) (hfa : Lm fa na) (hca : na ≤ ca ∧ ca ≤ 9223372036854775807) (hia : xa = none → na = 0 ∧ ca = 0) (hrb : Rd .u64 w xb nb fb) (hfb : Lm fb nb) (hcb : nb ≤ cb ∧ cb ≤ 9223372036854775807) (hib : xb = none → nb = 0 ∧ cb = 0) (hna : na ≤ 1000) (hnb : nb ≤ 1000) :
    Calls Tryz.prog 36 #[.int .i64 kind, .agg #[.bool sa, .slice xa na ca], .agg #[.bool sb, .slice xb nb cb]] w fun e w' => WGot 8192 w w' e (wfB sa fa na && wfB sb fb nb) (kv kind (wv sa fa na) (wv sb fb nb)) := by
  have HRA := hid hra; have HFA := hid hfa; have HIA := hid hia; have HRB := hid hrb; have HFB := hid hfb; have HIB := hid hib
  clear hra hfa hia hrb hfb hib
  obtain ⟨ba, bb, ob, hw⟩ := zboxes (w := w) sa xa na ca sb xb nb cb 24
  have h1 := ((HRA.out.alloc (.cells #[.bool sa, .slice xa na ca] 24)).alloc (.cells #[.bool sb, .slice xb nb cb] 24)).alloc (.cells #[.bool false, .slice none 0 0] 24)
  have h2 := ((HRB.out.alloc (.cells #[.bool sa, .slice xa na ca] 24)).alloc (.cells #[.bool sb, .slice xb nb cb] 24)).alloc (.cells #[.bool false, .slice none 0 0] 24)
  rcases (show kind = 0 ∨ kind = 1 ∨ kind = 2 by omega) with rfl | rfl | rfl
  · go_enter Tryz.func36, Tryz.ntmps36
    go_wp2_with fail
    generalize ((w.alloc (.cells #[.bool sa, .slice xa na ca] 24)).alloc (.cells #[.bool sb, .slice xb nb cb] 24)).alloc (.cells #[.bool false, .slice none 0 0] 24) = w1 at *
    have OB := hid ob; have HW := hid hw
    refine (wAdd_c sa sb xa xb na nb ca cb fa fb _ (by omega) (by omega) h1 h2 HFA.out HFB.out).mono ?_
    rintro e w2 ⟨r, z, k, c, f, er, rfl, hres, hans⟩
    obtain ⟨her, hwn⟩ := got_of hres hans
    have HE := hid her
    have hb := hres.res.bel
    have hle := hres.res.le
    have OB2' := hid (OB.out.below hb); have HW2 := hid (HW.out.trans (hb.mono HW.out.size)); have WN := hid hwn
    clear hb hres hans hwn her OB HW ob hw ba bb h1 h2
    obtain ⟨hz, z0, z1, zf⟩ := OB2'.out
    go_wp2
    exact bodyPost_ret (v := .tuple #[.agg #[.bool r, .slice z k c], .int .i64 er]) (by simp [results, Tryz.results36, go_sem, z0, z1]) rfl ⟨r, z, k, c, f, by rw [← HE.out], below_st2 HW2.out (by omega), by omega, OB2'.out.wn WN.out⟩
  · go_enter Tryz.func36, Tryz.ntmps36
    go_wp2_with fail
    generalize ((w.alloc (.cells #[.bool sa, .slice xa na ca] 24)).alloc (.cells #[.bool sb, .slice xb nb cb] 24)).alloc (.cells #[.bool false, .slice none 0 0] 24) = w1 at *
    have OB := hid ob; have HW := hid hw
    refine (wSub_c sa sb xa xb na nb ca cb fa fb _ (by omega) (by omega) h1 h2 HFA.out HFB.out).mono ?_
    rintro e w2 ⟨r, z, k, c, f, er, rfl, hres, hans⟩
    obtain ⟨her, hwn⟩ := got_of hres hans
    have HE := hid her
    have hb := hres.res.bel
    have hle := hres.res.le
    have OB2' := hid (OB.out.below hb); have HW2 := hid (HW.out.trans (hb.mono HW.out.size)); have WN := hid hwn
    clear hb hres hans hwn her OB HW ob hw ba bb h1 h2
    obtain ⟨hz, z0, z1, zf⟩ := OB2'.out
    go_wp2
    exact bodyPost_ret (v := .tuple #[.agg #[.bool r, .slice z k c], .int .i64 er]) (by simp [results, Tryz.results36, go_sem, z0, z1]) rfl ⟨r, z, k, c, f, by rw [← HE.out], below_st2 HW2.out (by omega), by omega, OB2'.out.wn WN.out⟩
  · go_enter Tryz.func36, Tryz.ntmps36
    go_wp2_with fail
    generalize ((w.alloc (.cells #[.bool sa, .slice xa na ca] 24)).alloc (.cells #[.bool sb, .slice xb nb cb] 24)).alloc (.cells #[.bool false, .slice none 0 0] 24) = w1 at *
    have OB := hid ob; have HW := hid hw
    refine (wMul_c sa sb xa xb na nb ca cb fa fb _ (by omega) (by omega) hca.1 hcb.1 hca.2 hcb.2 h1 h2 HFA.out HFB.out).mono ?_
    rintro e w2 ⟨r, z, k, c, f, er, rfl, hres, hans⟩
    obtain ⟨her, hwn⟩ := got_of hres hans
    have HE := hid her
    have hb := hres.res.bel
    have hle := hres.res.le
    have OB2' := hid (OB.out.below hb); have HW2 := hid (HW.out.trans (hb.mono HW.out.size)); have WN := hid hwn
    clear hb hres hans hwn her OB HW ob hw ba bb h1 h2
    obtain ⟨hz, z0, z1, zf⟩ := OB2'.out
    go_wp2
    exact bodyPost_ret (v := .tuple #[.agg #[.bool r, .slice z k c], .int .i64 er]) (by simp [results, Tryz.results36, go_sem, z0, z1]) rfl ⟨r, z, k, c, f, by rw [← HE.out], below_st2 HW2.out (by omega), by omega, OB2'.out.wn WN.out⟩
end Go.Proofs.YtgklbedaebiglaaGreatDoor

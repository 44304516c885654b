/-
  The walk of RatLine.
-/
import Derived.Test.YtgklbedaebiglaaGreatDoorZ8
namespace Go.Proofs.YtgklbedaebiglaaGreatDoor
open Go.RowKit

theorem kT0 {w : World} {g : Nat} {x y z : Value} {t : TypeId} (h : g = w.heap.size) : (w.alloc (.cells #[x, y, z] t)).cell? ⟨g, 0, none⟩ = some x := by subst h; simp [go_sem]
theorem kT1 {w : World} {g : Nat} {x y z : Value} {t : TypeId} (h : g = w.heap.size) : (w.alloc (.cells #[x, y, z] t)).cell? ⟨g, 1, none⟩ = some y := by subst h; simp [go_sem]
theorem kT2 {w : World} {g : Nat} {x y z : Value} {t : TypeId} (h : g = w.heap.size) : (w.alloc (.cells #[x, y, z] t)).cell? ⟨g, 2, none⟩ = some z := by subst h; simp [go_sem]
theorem kBt {w0 w : World} {p : Addr} {v : Value} (hB : w0.heap.size ≤ p.block) (h : Below w0.heap.size w0 w) : Below w0.heap.size w0 (w.setCell p v) :=
  below_turned h h.size ((Turned.refl w0.heap.size (p.block + 1) w).set hB (Nat.lt_succ_self _) v) (Nat.le_refl _)
theorem ob_at {w : World} {t : TypeId} {B : Nat} (h : B = w.heap.size) : Ob (w.alloc (.cells #[.bool false, .slice none 0 0, .slice none 0 0] t)) B := by subst h; exact ob_new w t
theorem kOa {w : World} {B : Nat} {o : Obj} (h : Ob w B) : Ob (w.alloc o) B := h.alloc o
theorem kQd {L w s x n c f y m d g q} (h : Rn L w s x n c f y m d g q) : Rn L w.drew s x n c f y m d g q := ⟨kWd h.num, kWd h.den, h.ln, h.ld⟩
theorem kQa {L w s x n c f y m d g q} {o : Obj} (h : Rn L w s x n c f y m d g q) : Rn L (w.alloc o) s x n c f y m d g q := h.alloc o
theorem kQo {L w B u0 u1 u2 s x n c f y m d g q} (h : Ob w B) (hx : Rn L w s x n c f y m d g q) : Rn L (((w.setCell ⟨B, 0, none⟩ u0).setCell ⟨B, 1, none⟩ u1).setCell ⟨B, 2, none⟩ u2) s x n c f y m d g q := h.rn hx
/-- A number in a box of its own. -/
structure QAt (L : Nat) (w1 wx : World) (B : Nat) (s : Bool) (x : Option Addr) (n c : Nat) (y : Option Addr) (m d : Nat) (q : Rat) : Prop where
  bx : Bx3 wx B (.bool s) (.slice x n c) (.slice y m d)
  bel : Below w1.heap.size w1 wx
  rn : ∃ f g, Rn L wx s x n c f y m d g q
theorem kQb {L w w' s x n c f y m d g q} (hb : Below w.heap.size w w') (h : Rn L w s x n c f y m d g q) : Rn L w' s x n c f y m d g q := h.below hb
theorem line_add {x y : Int} {a b c : Rat} (h : ROrd x a b) (k : ROrd y (a + c) (b + c)) : y = x := by
  rcases h with ⟨h1, h2⟩ | ⟨h1, h2⟩ | ⟨h1, h2⟩ <;> rcases k with ⟨k1, k2⟩ | ⟨k1, k2⟩ | ⟨k1, k2⟩ <;> first | omega | (exfalso; grind)
theorem line_neg {x y : Int} {a b : Rat} (h : ROrd x a b) (k : ROrd y (-b) (-a)) : y = x := by
  rcases h with ⟨h1, h2⟩ | ⟨h1, h2⟩ | ⟨h1, h2⟩ <;> rcases k with ⟨k1, k2⟩ | ⟨k1, k2⟩ | ⟨k1, k2⟩ <;> first | omega | (exfalso; grind)
theorem over_one (z : Int) : ((z : Int) : Rat) / ((1 : Int) : Rat) = (z : Rat) := by grind
theorem line_low {x : Int} {a : Rat} (h : ROrd x (a.floor : Rat) a) : x ≤ 0 := by
  have := Rat.floor_le a
  rcases h with ⟨h1, h2⟩ | ⟨h1, h2⟩ | ⟨h1, h2⟩
  · omega
  · omega
  · exfalso; grind
theorem line_high {x : Int} {a : Rat} (h : ROrd x a ((a.floor : Rat) + ((1 : Int) : Rat) / ((1 : Int) : Rat))) : x < 0 := by
  have := @Rat.lt_floor a
  rw [over_one] at h
  rcases h with ⟨h1, h2⟩ | ⟨h1, h2⟩ | ⟨h1, h2⟩
  · omega
  · exfalso; grind
  · exfalso; grind

set_option maxRecDepth 100000 in
set_option maxHeartbeats 8000000 in
theorem ratLine_c (sa : Bool) (xa : Option Addr) (na ca : Nat) (fa : Nat → Int) (ya : Option Addr) (ma da : Nat) (ga : Nat → Int) (sb : Bool) (xb : Option Addr) (nb cb : Nat) (fb : Nat → Int) (yb : Option Addr) (mb db : Nat) (gb : Nat → Int) (sc : Bool) (xc : Option Addr) (nc cc : Nat) (fc : Nat → Int) (yc : Option Addr) (mc dc : Nat) (gc : Nat → Int) (w : World) (ha : Rw w xa na ca fa ya ma da ga) (hb : Rw w xb nb cb fb yb mb db gb) (hc : Rw w xc nc cc fc yc mc dc gc) (htab : Tab w) :
    Calls Tryz.prog 6 #[.agg #[.bool sa, .slice xa na ca, .slice ya ma da], .agg #[.bool sb, .slice xb nb cb, .slice yb mb db], .agg #[.bool sc, .slice xc nc cc, .slice yc mc dc]] w fun e w' => e = .returned (.bool true) ∧ Below w.heap.size w w' := by
  have HTab := hid htab; have HA := hid ha; have HB := hid hb; have HC := hid hc
  have q1 := ha.cx; have q2 := ha.cy; have q3 := hb.cx; have q4 := hb.cy; have q5 := hc.cx; have q6 := hc.cy
  clear ha hb hc htab
  go_enter Tryz.func6, Tryz.ntmps6
  go_wp2_with fail
  refine (rAwake_c _ (HTab.out.below (below_alloc (below_alloc (below_alloc (Below.refl w.heap.size w) _) _) _) HTab.out.lt)).mono ?_
  rintro e w1 ⟨rfl, hbel⟩
  obtain ⟨⟨hz, p0, p1, p2, r0, r1, r2, t0, t1, t2, _⟩, hw⟩ := three_new hbel
  have BA1 : Hid (Bx3 w1 w.heap.size _ _ _) := ⟨by omega, p0, p1, p2⟩
  have BB1 : Hid (Bx3 w1 (w.heap.size + 1) _ _ _) := ⟨by omega, r0, r1, r2⟩
  have BC1 : Hid (Bx3 w1 (w.heap.size + 1 + 1) _ _ _) := ⟨by omega, t0, t1, t2⟩
  have HW1 := hid hw
  clear hbel hw hz p0 p1 p2 r0 r1 r2 t0 t1 t2
  obtain ⟨zBA, BA0, BA1, BA2⟩ := BA1.out
  obtain ⟨zBB, BB0, BB1, BB2⟩ := BB1.out
  go_wp2_with fail
  refine (rlight2_c sa xa ya na ca ma da sb xb yb nb cb mb db _ (by omega) (by omega) (by omega) (by omega)).mono ?_
  rintro e w2 ⟨rfl, hb⟩
  clear zBA BA0 BA1 BA2 zBB BB0 BB1 BB2
  have BA2 := hid (BA1.out.below hb); have BB2 := hid (BB1.out.below hb); have BC2 := hid (BC1.out.below hb); have HW2 := hid (HW1.out.trans (hb.mono HW1.out.size))
  clear BA1 BB1 BC1 HW1 hb
  obtain ⟨zBC, BC0, BC1, BC2⟩ := BC2.out
  cases hl : (lg na ma 20 && lg nb mb 20)
  · go_wp2
    go_ret
    exact ⟨rfl, HW2.out⟩
  have hl1 : na ≤ 20 ∧ ma ≤ 20 ∧ nb ≤ 20 ∧ mb ≤ 20 := by
    simp only [lg, Bool.and_eq_true, decide_eq_true_eq] at hl
    exact ⟨hl.1.1, hl.1.2, hl.2.1, hl.2.2⟩
  clear hl
  go_wp2_with fail
  refine (rLight_c sc xc yc nc cc mc dc _ (by omega) (by omega)).mono ?_
  rintro e w3 ⟨rfl, hb⟩
  clear zBC BC0 BC1 BC2
  have BA3 := hid (BA2.out.below hb); have BB3 := hid (BB2.out.below hb); have BC3 := hid (BC2.out.below hb); have HW3 := hid (HW2.out.trans (hb.mono HW2.out.size))
  clear BA2 BB2 BC2 HW2 hb
  obtain ⟨zBA, BA0, BA1, BA2⟩ := BA3.out
  cases hl : lg nc mc 20
  · go_wp2
    go_ret
    exact ⟨rfl, HW3.out⟩
  have hl2 : nc ≤ 20 ∧ mc ≤ 20 := by
    simp only [lg, Bool.and_eq_true, decide_eq_true_eq] at hl
    exact hl
  clear hl
  go_wp2_with fail
  refine (rForm_c (s := sa) (HA.out.below HW3.out) (by omega) (by omega)).mono ?_
  rintro e w4 ⟨rfl, hb⟩
  clear zBA BA0 BA1 BA2
  have BA4 := hid (BA3.out.below hb); have BB4 := hid (BB3.out.below hb); have BC4 := hid (BC3.out.below hb); have HW4 := hid (HW3.out.trans (hb.mono HW3.out.size))
  clear BA3 BB3 BC3 HW3 hb
  obtain ⟨zBB, BB0, BB1, BB2⟩ := BB4.out
  cases hf : rfB sa fa na ga ma
  · go_wp2
    go_ret
    exact ⟨rfl, HW4.out⟩
  have FA := hid hf
  clear hf
  go_wp2_with fail
  refine (rForm_c (s := sb) (HB.out.below HW4.out) (by omega) (by omega)).mono ?_
  rintro e w5 ⟨rfl, hb⟩
  clear zBB BB0 BB1 BB2
  have BA5 := hid (BA4.out.below hb); have BB5 := hid (BB4.out.below hb); have BC5 := hid (BC4.out.below hb); have HW5 := hid (HW4.out.trans (hb.mono HW4.out.size))
  clear BA4 BB4 BC4 HW4 hb
  obtain ⟨zBC, BC0, BC1, BC2⟩ := BC5.out
  cases hf : rfB sb fb nb gb mb
  · go_wp2
    go_ret
    exact ⟨rfl, HW5.out⟩
  have FB := hid hf
  clear hf
  go_wp2_with fail
  refine (rForm_c (s := sc) (HC.out.below HW5.out) (by omega) (by omega)).mono ?_
  rintro e w6 ⟨rfl, hb⟩
  clear zBC BC0 BC1 BC2
  have BA6 := hid (BA5.out.below hb); have BB6 := hid (BB5.out.below hb); have BC6 := hid (BC5.out.below hb); have HW6 := hid (HW5.out.trans (hb.mono HW5.out.size))
  clear BA5 BB5 BC5 HW5 hb
  cases hf : rfB sc fc nc gc mc
  · go_wp2
    go_ret
    exact ⟨rfl, HW6.out⟩
  have FC := hid hf
  clear hf
  obtain ⟨a, ha⟩ := (HA.out.below HW6.out).rn (L := 20) FA.out (by omega) (by omega)
  have RA6 := hid ha
  clear ha
  obtain ⟨b, hb⟩ := (HB.out.below HW6.out).rn (L := 20) FB.out (by omega) (by omega)
  have RB6 := hid hb
  clear hb
  obtain ⟨c, hc⟩ := (HC.out.below HW6.out).rn (L := 20) FC.out (by omega) (by omega)
  have RC6 := hid hc
  clear hc
  obtain ⟨zBA, BA0, BA1, BA2⟩ := BA6.out
  obtain ⟨zBB, BB0, BB1, BB2⟩ := BB6.out
  go_wp2_with fail
  refine (rCmp_n RA6.out RB6.out (by decide)).mono ?_
  rintro e w7 ⟨k7, rfl, hb, h7⟩
  have O7 := hid h7
  clear h7
  clear zBA BA0 BA1 BA2 zBB BB0 BB1 BB2
  have BA7 := hid (BA6.out.below hb); have BB7 := hid (BB6.out.below hb); have BC7 := hid (BC6.out.below hb); have RA7 := hid (RA6.out.below hb); have RB7 := hid (RB6.out.below hb); have RC7 := hid (RC6.out.below hb); have HW7 := hid (HW6.out.trans (hb.mono HW6.out.size))
  clear BA6 BB6 BC6 RA6 RB6 RC6 HW6 hb
  obtain ⟨zBA, BA0, BA1, BA2⟩ := BA7.out
  obtain ⟨zBC, BC0, BC1, BC2⟩ := BC7.out
  go_wp2_with fail
  refine (rAdd_n RA7.out RC7.out (by decide)).mono ?_
  rintro e w8 ⟨sX, xX, nX, cX, fX, yX, mX, dX, gX, rfl, hb, hr⟩
  have RX8 := hid hr
  clear hr
  clear zBA BA0 BA1 BA2 zBC BC0 BC1 BC2
  have BA8 := hid (BA7.out.below hb); have BB8 := hid (BB7.out.below hb); have BC8 := hid (BC7.out.below hb); have RA8 := hid (RA7.out.below hb); have RB8 := hid (RB7.out.below hb); have RC8 := hid (RC7.out.below hb); have HW8 := hid (HW7.out.trans (hb.mono HW7.out.size))
  clear BA7 BB7 BC7 RA7 RB7 RC7 HW7 hb
  obtain ⟨zBB, BB0, BB1, BB2⟩ := BB8.out
  obtain ⟨zBC, BC0, BC1, BC2⟩ := BC8.out
  go_wp2_with fail
  refine (rAdd_n (RB8.out.alloc _) (RC8.out.alloc _) (by decide)).mono ?_
  rintro e w9 ⟨sY, xY, nY, cY, fY, yY, mY, dY, gY, rfl, hb, hr⟩
  have RY9 := hid hr; have BX9 := hid (bx3_new hb)
  clear hr
  clear zBB BB0 BB1 BB2 zBC BC0 BC1 BC2
  have BA9 := hid (BA8.out.next hb); have BB9 := hid (BB8.out.next hb); have RA9 := hid (RA8.out.next hb); have RB9 := hid (RB8.out.next hb); have RX9 := hid (RX8.out.next hb); have HW9 := hid ((below_alloc HW8.out _).trans (hb.mono (below_alloc HW8.out _).size))
  clear BA8 BB8 RA8 RB8 RX8 HW8 hb
  obtain ⟨zBX, BX0, BX1, BX2⟩ := BX9.out
  go_wp2_with fail
  refine (rCmp_n (RX9.out.alloc _) (RY9.out.alloc _) (by decide)).mono ?_
  rintro e w10 ⟨k10, rfl, hb, h10⟩
  obtain rfl := line_add O7.out h10
  clear h10 RX9 RY9
  clear zBX BX0 BX1 BX2
  have BA10 := hid (BA9.out.next hb); have BB10 := hid (BB9.out.next hb); have RA10 := hid (RA9.out.next hb); have RB10 := hid (RB9.out.next hb); have HW10 := hid ((below_alloc HW9.out _).trans (hb.mono (below_alloc HW9.out _).size))
  clear BA9 BB9 RA9 RB9 HW9 hb
  obtain ⟨zBA, BA0, BA1, BA2⟩ := BA10.out
  go_wp2_with fail
  refine (rNeg_n RA10.out (by decide)).mono ?_
  rintro e w11 ⟨sU, xU, nU, cU, fU, yU, mU, dU, gU, rfl, hb, hr⟩
  have RU11 := hid hr
  clear hr
  clear zBA BA0 BA1 BA2
  have BA11 := hid (BA10.out.below hb); have BB11 := hid (BB10.out.below hb); have RA11 := hid (RA10.out.below hb); have RB11 := hid (RB10.out.below hb); have HW11 := hid (HW10.out.trans (hb.mono HW10.out.size))
  clear BA10 BB10 RA10 RB10 HW10 hb
  obtain ⟨zBB, BB0, BB1, BB2⟩ := BB11.out
  go_wp2_with fail
  refine (rNeg_n (RB11.out.alloc _) (by decide)).mono ?_
  rintro e w12 ⟨sV, xV, nV, cV, fV, yV, mV, dV, gV, rfl, hb, hr⟩
  have RV12 := hid hr; have BU12 := hid (bx3_new hb)
  clear hr
  clear zBB BB0 BB1 BB2
  have BA12 := hid (BA11.out.next hb); have BB12 := hid (BB11.out.next hb); have RA12 := hid (RA11.out.next hb); have RB12 := hid (RB11.out.next hb); have RU12 := hid (RU11.out.next hb); have HW12 := hid ((below_alloc HW11.out _).trans (hb.mono (below_alloc HW11.out _).size))
  clear BA11 BB11 RA11 RB11 RU11 HW11 hb
  obtain ⟨zBU, BU0, BU1, BU2⟩ := BU12.out
  go_wp2_with fail
  refine (rCmp_n (RV12.out.alloc _) (RU12.out.alloc _) (by decide)).mono ?_
  rintro e w13 ⟨k13, rfl, hb, h13⟩
  obtain rfl := line_neg O7.out h13
  clear h13 RV12 RU12
  clear zBU BU0 BU1 BU2
  have BA13 := hid (BA12.out.next hb); have BB13 := hid (BB12.out.next hb); have RA13 := hid (RA12.out.next hb); have RB13 := hid (RB12.out.next hb); have HW13 := hid ((below_alloc HW12.out _).trans (hb.mono (below_alloc HW12.out _).size))
  clear BA12 BB12 RA12 RB12 HW12 hb
  obtain ⟨zBA, BA0, BA1, BA2⟩ := BA13.out
  go_wp2_with fail
  refine (rFloor_n RA13.out (by decide)).mono ?_
  rintro e w14 ⟨sF, xF, nF, cF, fF, rfl, hb, hkF, hr⟩
  have WF14 := hid hr
  clear hr
  clear zBA BA0 BA1 BA2
  have BA14 := hid (BA13.out.below hb); have BB14 := hid (BB13.out.below hb); have RA14 := hid (RA13.out.below hb); have RB14 := hid (RB13.out.below hb); have HW14 := hid (HW13.out.trans (hb.mono HW13.out.size))
  clear BA13 BB13 RA13 RB13 HW13 hb
  go_upto_region 13 with fail
  have BF : Bx (w14.alloc (.cells #[.bool sF, .slice xF nF cF] 24)) w14.heap.size sF xF nF cF := ⟨by simp, kN0, kN1⟩
  have hbel := below_alloc (Below.refl w14.heap.size w14) (.cells #[.bool sF, .slice xF nF cF] 24)
  have hgf : ∃ W, W = w14.alloc (.cells #[.bool sF, .slice xF nF cF] 24) := ⟨_, rfl⟩
  generalize w14.alloc (.cells #[.bool sF, .slice xF nF cF] 24) = w15 at *
  have hb := hbel
  have WF15 := hid (WF14.out.below hb)
  clear hgf hbel WF14
  have BA15 := hid (BA14.out.below hb); have BB15 := hid (BB14.out.below hb); have RA15 := hid (RA14.out.below hb); have RB15 := hid (RB14.out.below hb); have HW15 := hid (HW14.out.trans (hb.mono HW14.out.size))
  clear BA14 BB14 RA14 RB14 HW14 hb
  obtain ⟨zf, f0, f1⟩ := BF
  have C1 : Hid (∀ W : World, Calls Tryz.prog 32 #[.int .i64 1] W fun e w' => ∃ s x n c f, e = .returned (.agg #[.bool s, .slice x n c]) ∧ Below W.heap.size W w' ∧ Hid (n ≤ 1 ∧ Wn w' s x n c f 1)) := fun W => (docOf_c 1 W (by decide) (by decide)).mono (fun e w' ⟨s, x, n, c, f, h1, h2, h3⟩ => ⟨s, x, n, c, f, h1, h2.res.bel, (h2.wn h3).len1 (by decide), h2.wn h3⟩)
  have C2 : Hid (∀ (W : World) (s : Bool) (x : Option Addr) (n c : Nat) (f : Nat → Int), Below w15.heap.size w15 W → n ≤ 1 → Wn W s x n c f 1 → Calls Tryz.prog 31 #[.agg #[.bool sF, .slice xF nF cF], .agg #[.bool s, .slice x n c]] W fun e w' => ∃ s x n c f y m d g, e = .returned (.tuple #[.agg #[.bool s, .slice x n c, .slice y m d], .int .i64 0]) ∧ Below W.heap.size W w' ∧ Hid (Rn 22 w' s x n c f y m d g (a.floor : Rat))) := fun W s x n c f hW hn h1 => (rMake_n (L := 22) (WF15.out.below hW) h1 (by decide) hkF (by omega) (by decide)).mono (fun e w' ⟨s, x, n, c, f, y, m, d, g, h1, h2, h3⟩ => ⟨s, x, n, c, f, y, m, d, g, h1, h2, by rw [over_one] at h3; exact h3⟩)
  go_cut [23, 24] from 99 to 104 (fun u t wx => ∃ (wy : World) (B : Nat) (s : Bool) (x : Option Addr) (n c : Nat) (y : Option Addr) (m d : Nat), wy = wx ∧ u = .pointer (some ⟨B, 0, none⟩) ∧ t = .int .i64 0 ∧ QAt 22 w15 wy B s x n c y m d (a.floor : Rat))
  case first =>
    go_region_held3 (fun w' => w'.cell? ⟨w14.heap.size, 0, none⟩ = some (.bool sF) ∧ w'.cell? ⟨w14.heap.size, 1, none⟩ = some (.slice xF nF cF))
      (refine ⟨?_, ?_⟩ <;> repeat (with_reducible first | assumption | refine kCd ?_ | refine kCa ?_ | refine kCs (by simp only [ne_eq]; omega) ?_ | refine kCb (by assumption) ?_))
      (first
        | (go_at_call 32; with_reducible refine (C1.out _).mono ?_; rintro e v3 ⟨i1, i2, i3, i4, i5, rfl, hb3, HI⟩; have hzi := hb3.size; (try simp at hzi); obtain ⟨hc3, hf3⟩ := bcell hb3; (try have q100 : w15.heap.size < v3.heap.size := by omega))
        | (go_at_call 31; with_reducible refine (C2.out _ i1 i2 i3 i4 i5 (by repeat (with_reducible first | assumption | exact Below.refl _ _ | refine Below.drew ?_ | refine kBa ?_ | refine kBb (by assumption) ?_)) HI.out.1 (by repeat (with_reducible first | exact HI.out.2 | refine kWd ?_ | refine kWa ?_ | refine kWb (by assumption) ?_))).mono ?_; rintro e v5 ⟨s, x, n, c, f, y, m, d, g, rfl, hb5, HR⟩; have hzj := hb5.size; (try simp at hzj); obtain ⟨hc5, hf5⟩ := bcell hb5; (try have q100 : w15.heap.size < v5.heap.size := by omega); (try have q101 : v3.heap.size < v5.heap.size := by omega)))
    all_goals
      go_wp2_with fail
      go_meet
      refine ⟨_, _, s, x, n, c, y, m, d, rfl, rfl, rfl, ⟨(by first | omega | (simp; done) | (simp; omega)), (by repeat (with_reducible first | assumption | exact kT0 rfl | exact kT1 rfl | exact kT2 rfl | (refine kT0 ?_; (simp <;> fail)) | (refine kT1 ?_; (simp <;> fail)) | (refine kT2 ?_; (simp <;> fail)) | exact kI0 (kT0 rfl) | exact kI0 (kT1 rfl) | exact kI0 (kT2 rfl) | (refine kI0 (kT0 ?_); (simp <;> fail)) | (refine kI0 (kT1 ?_); (simp <;> fail)) | (refine kI0 (kT2 ?_); (simp <;> fail)) | refine kCd ?_ | refine kCe ?_ | refine kCo (by decide) ?_ | refine kCs (by simp only [ne_eq]; omega) ?_ | refine kCa ?_ | refine kCb (by assumption) ?_ | refine kId ?_ | refine kIs ?_ | refine kIa ?_ | refine kIb (by assumption) ?_)), (by repeat (with_reducible first | assumption | exact kT0 rfl | exact kT1 rfl | exact kT2 rfl | (refine kT0 ?_; (simp <;> fail)) | (refine kT1 ?_; (simp <;> fail)) | (refine kT2 ?_; (simp <;> fail)) | exact kI0 (kT0 rfl) | exact kI0 (kT1 rfl) | exact kI0 (kT2 rfl) | (refine kI0 (kT0 ?_); (simp <;> fail)) | (refine kI0 (kT1 ?_); (simp <;> fail)) | (refine kI0 (kT2 ?_); (simp <;> fail)) | refine kCd ?_ | refine kCe ?_ | refine kCo (by decide) ?_ | refine kCs (by simp only [ne_eq]; omega) ?_ | refine kCa ?_ | refine kCb (by assumption) ?_ | refine kId ?_ | refine kIs ?_ | refine kIa ?_ | refine kIb (by assumption) ?_)), (by repeat (with_reducible first | assumption | exact kT0 rfl | exact kT1 rfl | exact kT2 rfl | (refine kT0 ?_; (simp <;> fail)) | (refine kT1 ?_; (simp <;> fail)) | (refine kT2 ?_; (simp <;> fail)) | exact kI0 (kT0 rfl) | exact kI0 (kT1 rfl) | exact kI0 (kT2 rfl) | (refine kI0 (kT0 ?_); (simp <;> fail)) | (refine kI0 (kT1 ?_); (simp <;> fail)) | (refine kI0 (kT2 ?_); (simp <;> fail)) | refine kCd ?_ | refine kCe ?_ | refine kCo (by decide) ?_ | refine kCs (by simp only [ne_eq]; omega) ?_ | refine kCa ?_ | refine kCb (by assumption) ?_ | refine kId ?_ | refine kIs ?_ | refine kIa ?_ | refine kIb (by assumption) ?_))⟩, (by repeat (with_reducible first | assumption | exact Below.refl _ _ | refine Below.drew ?_ | refine kBa ?_ | refine kBt (by first | omega | (simp; done) | (simp; omega)) ?_ | refine kBb (by assumption) ?_)), f, g, (by repeat (with_reducible first | exact HR.out | refine kQd ?_ | refine kQa ?_ | refine kQo (by repeat (with_reducible first | exact ob_at rfl | (refine ob_at ?_; (simp <;> fail)) | refine Ob.drew ?_ | refine kOa ?_ | refine kOb (by assumption) ?_)) ?_))⟩
  case rest =>
    obtain ⟨w16, bF, sG, xG, nG, cG, yG, mG, dG, rfl, rfl, rfl, hbx, hb, ⟨fG, gG, hrn⟩⟩ := hcut
    have BG16 := hid hbx; have RG16 := hid hrn
    clear hbx hrn zf f0 f1 C1 C2 WF15
    have BA16 := hid (BA15.out.below hb); have BB16 := hid (BB15.out.below hb); have RA16 := hid (RA15.out.below hb); have RB16 := hid (RB15.out.below hb); have HW16 := hid (HW15.out.trans (hb.mono HW15.out.size))
    clear BA15 BB15 RA15 RB15 HW15 hb
    obtain ⟨zBG, BG0, BG1, BG2⟩ := BG16.out
    obtain ⟨zBA, BA0, BA1, BA2⟩ := BA16.out
    go_wp2_with fail
    refine (rCmp_n RG16.out (RA16.out.mono (by decide)) (by decide)).mono ?_
    rintro e w17 ⟨k17, rfl, hb, h17⟩
    have hlow := line_low h17
    clear h17
    clear zBG BG0 BG1 BG2 zBA BA0 BA1 BA2
    have BA17 := hid (BA16.out.below hb); have BB17 := hid (BB16.out.below hb); have RA17 := hid (RA16.out.below hb); have RB17 := hid (RB16.out.below hb); have BG17 := hid (BG16.out.below hb); have RG17 := hid (RG16.out.below hb); have HW17 := hid (HW16.out.trans (hb.mono HW16.out.size))
    clear BA16 BB16 RA16 RB16 BG16 RG16 HW16 hb
    obtain ⟨zBG, BG0, BG1, BG2⟩ := BG17.out
    have C1 : Hid (∀ W : World, Calls Tryz.prog 33 #[.int .i64 1, .int .i64 1] W fun e w' => ∃ s x n c f y m d g, e = .returned (.agg #[.bool s, .slice x n c, .slice y m d]) ∧ Below W.heap.size W w' ∧ Hid (Rn 2 w' s x n c f y m d g (((1 : Int) : Rat) / ((1 : Int) : Rat)))) := fun W => (num_c W 1 1 (by decide) (by decide) (by decide) (by decide)).mono (fun e w' ⟨s, x, n, c, f, y, m, d, g, h1, h2, h3, _, _⟩ => ⟨s, x, n, c, f, y, m, d, g, h1, h2, h3⟩)
    have C2 : Hid (∀ (W : World) (s : Bool) (x : Option Addr) (n c : Nat) (f : Nat → Int) (y : Option Addr) (m d : Nat) (g : Nat → Int), Below w17.heap.size w17 W → Rn 2 W s x n c f y m d g (((1 : Int) : Rat) / ((1 : Int) : Rat)) → Calls Tryz.prog 23 #[.agg #[.bool sG, .slice xG nG cG, .slice yG mG dG], .agg #[.bool s, .slice x n c, .slice y m d]] W fun e w' => ∃ s x n c f y m d g, e = .returned (.tuple #[.agg #[.bool s, .slice x n c, .slice y m d], .int .i64 0]) ∧ Below W.heap.size W w' ∧ Hid (Rn 45 w' s x n c f y m d g ((a.floor : Rat) + ((1 : Int) : Rat) / ((1 : Int) : Rat)))) := fun W s x n c f y m d g hW h1 => (rAdd_n (RG17.out.below hW) (h1.mono (by decide)) (by decide)).mono (fun e w' ⟨s, x, n, c, f, y, m, d, g, h1, h2, h3⟩ => ⟨s, x, n, c, f, y, m, d, g, h1, h2, h3⟩)
    go_upto_region 17 with fail
    go_cut [26, 10] from 145 to 150 (fun u t wx => ∃ (wy : World) (B : Nat) (s : Bool) (x : Option Addr) (n c : Nat) (y : Option Addr) (m d : Nat), wy = wx ∧ u = .pointer (some ⟨B, 0, none⟩) ∧ t = .int .i64 0 ∧ QAt 45 w17 wy B s x n c y m d ((a.floor : Rat) + ((1 : Int) : Rat) / ((1 : Int) : Rat)))
    case first =>
      go_region_held3 (fun w' => w'.cell? ⟨bF, 0, none⟩ = some (.bool sG) ∧ w'.cell? ⟨bF, 1, none⟩ = some (.slice xG nG cG) ∧ w'.cell? ⟨bF, 2, none⟩ = some (.slice yG mG dG))
        (refine ⟨?_, ?_, ?_⟩ <;> repeat (with_reducible first | assumption | refine kCd ?_ | refine kCa ?_ | refine kCs (by simp only [ne_eq]; omega) ?_ | refine kCb (by assumption) ?_))
        (first
          | (go_at_call 33; with_reducible refine (C1.out _).mono ?_; rintro e v3 ⟨i1, i2, i3, i4, i5, i6, i7, i8, i9, rfl, hb3, HI⟩; have hzi := hb3.size; (try simp at hzi); obtain ⟨hc3, hf3⟩ := bcell hb3; (try have q100 : w17.heap.size < v3.heap.size := by omega))
          | (go_at_call 23; with_reducible refine (C2.out _ i1 i2 i3 i4 i5 i6 i7 i8 i9 (by repeat (with_reducible first | assumption | exact Below.refl _ _ | refine Below.drew ?_ | refine kBa ?_ | refine kBb (by assumption) ?_)) (by repeat (with_reducible first | exact HI.out | refine kQd ?_ | refine kQa ?_ | refine kQb (by assumption) ?_))).mono ?_; rintro e v5 ⟨s, x, n, c, f, y, m, d, g, rfl, hb5, HR⟩; have hzj := hb5.size; (try simp at hzj); obtain ⟨hc5, hf5⟩ := bcell hb5; (try have q100 : w17.heap.size < v5.heap.size := by omega); (try have q101 : v3.heap.size < v5.heap.size := by omega)))
      all_goals
        go_wp2_with fail
        go_meet
        refine ⟨_, _, s, x, n, c, y, m, d, rfl, rfl, rfl, ⟨(by first | omega | (simp; done) | (simp; omega)), (by repeat (with_reducible first | assumption | exact kT0 rfl | exact kT1 rfl | exact kT2 rfl | (refine kT0 ?_; (simp <;> fail)) | (refine kT1 ?_; (simp <;> fail)) | (refine kT2 ?_; (simp <;> fail)) | exact kI0 (kT0 rfl) | exact kI0 (kT1 rfl) | exact kI0 (kT2 rfl) | (refine kI0 (kT0 ?_); (simp <;> fail)) | (refine kI0 (kT1 ?_); (simp <;> fail)) | (refine kI0 (kT2 ?_); (simp <;> fail)) | refine kCd ?_ | refine kCe ?_ | refine kCo (by decide) ?_ | refine kCs (by simp only [ne_eq]; omega) ?_ | refine kCa ?_ | refine kCb (by assumption) ?_ | refine kId ?_ | refine kIs ?_ | refine kIa ?_ | refine kIb (by assumption) ?_)), (by repeat (with_reducible first | assumption | exact kT0 rfl | exact kT1 rfl | exact kT2 rfl | (refine kT0 ?_; (simp <;> fail)) | (refine kT1 ?_; (simp <;> fail)) | (refine kT2 ?_; (simp <;> fail)) | exact kI0 (kT0 rfl) | exact kI0 (kT1 rfl) | exact kI0 (kT2 rfl) | (refine kI0 (kT0 ?_); (simp <;> fail)) | (refine kI0 (kT1 ?_); (simp <;> fail)) | (refine kI0 (kT2 ?_); (simp <;> fail)) | refine kCd ?_ | refine kCe ?_ | refine kCo (by decide) ?_ | refine kCs (by simp only [ne_eq]; omega) ?_ | refine kCa ?_ | refine kCb (by assumption) ?_ | refine kId ?_ | refine kIs ?_ | refine kIa ?_ | refine kIb (by assumption) ?_)), (by repeat (with_reducible first | assumption | exact kT0 rfl | exact kT1 rfl | exact kT2 rfl | (refine kT0 ?_; (simp <;> fail)) | (refine kT1 ?_; (simp <;> fail)) | (refine kT2 ?_; (simp <;> fail)) | exact kI0 (kT0 rfl) | exact kI0 (kT1 rfl) | exact kI0 (kT2 rfl) | (refine kI0 (kT0 ?_); (simp <;> fail)) | (refine kI0 (kT1 ?_); (simp <;> fail)) | (refine kI0 (kT2 ?_); (simp <;> fail)) | refine kCd ?_ | refine kCe ?_ | refine kCo (by decide) ?_ | refine kCs (by simp only [ne_eq]; omega) ?_ | refine kCa ?_ | refine kCb (by assumption) ?_ | refine kId ?_ | refine kIs ?_ | refine kIa ?_ | refine kIb (by assumption) ?_))⟩, (by repeat (with_reducible first | assumption | exact Below.refl _ _ | refine Below.drew ?_ | refine kBa ?_ | refine kBt (by first | omega | (simp; done) | (simp; omega)) ?_ | refine kBb (by assumption) ?_)), f, g, (by repeat (with_reducible first | exact HR.out | refine kQd ?_ | refine kQa ?_ | refine kQo (by repeat (with_reducible first | exact ob_at rfl | (refine ob_at ?_; (simp <;> fail)) | refine Ob.drew ?_ | refine kOa ?_ | refine kOb (by assumption) ?_)) ?_))⟩
    case rest =>
      obtain ⟨w18, bN, sN, xN, nN, cN, yN, mN, dN, rfl, rfl, rfl, hbx, hb, ⟨fN, gN, hrn⟩⟩ := hcut
      have BN18 := hid hbx; have RN_18 := hid hrn
      clear hbx hrn C1 C2 RG17
      clear zBG BG0 BG1 BG2
      have BA18 := hid (BA17.out.below hb); have BB18 := hid (BB17.out.below hb); have RA18 := hid (RA17.out.below hb); have RB18 := hid (RB17.out.below hb); have HW18 := hid (HW17.out.trans (hb.mono HW17.out.size))
      clear BA17 BB17 RA17 RB17 HW17 hb
      obtain ⟨zBA, BA0, BA1, BA2⟩ := BA18.out
      obtain ⟨zBN, BN0, BN1, BN2⟩ := BN18.out
      go_wp2_with fail
      refine (rCmp_n (RA18.out.mono (by decide)) RN_18.out (by decide)).mono ?_
      rintro e w19 ⟨k19, rfl, hb, h19⟩
      have hhigh := line_high h19
      clear h19 RN_18
      clear zBA BA0 BA1 BA2 zBN BN0 BN1 BN2
      have BA19 := hid (BA18.out.below hb); have BB19 := hid (BB18.out.below hb); have RA19 := hid (RA18.out.below hb); have RB19 := hid (RB18.out.below hb); have HW19 := hid (HW18.out.trans (hb.mono HW18.out.size))
      clear BA18 BB18 RA18 RB18 HW18 hb
      obtain ⟨zBA, BA0, BA1, BA2⟩ := BA19.out
      obtain ⟨zBB, BB0, BB1, BB2⟩ := BB19.out
      have d1 : decide (k17 ≤ 0) = true := by simp; omega
      have d2 : decide (k19 < 0) = true := by simp; omega
      rcases O7.out with ⟨hk, ho⟩ | ⟨hk, ho⟩ | ⟨hk, ho⟩
      · subst hk
        have hne : decide (a = b) = false := by simp; intro h; subst h; exact absurd ho (by grind)
        have HN := hid hne
        clear hne ho
        go_wp2_with fail
        refine (rSame_n RA19.out RB19.out (by decide) (by decide)).mono ?_
        rintro e w20 ⟨rfl, hb⟩
        rw [HN.out]
        have HW20 := hid (HW19.out.trans (hb.mono HW19.out.size))
        clear hb
        go_wp2
        go_ret
        exact ⟨rfl, HW20.out⟩
      · subst hk
        have hne : decide (a = b) = true := decide_eq_true ho
        have HN := hid hne
        clear hne ho
        go_wp2_with fail
        refine (rSame_n RA19.out RB19.out (by decide) (by decide)).mono ?_
        rintro e w20 ⟨rfl, hb⟩
        rw [HN.out]
        have HW20 := hid (HW19.out.trans (hb.mono HW19.out.size))
        clear hb
        go_wp2
        go_ret
        exact ⟨rfl, HW20.out⟩
      · subst hk
        have hne : decide (a = b) = false := by simp; intro h; subst h; exact absurd ho (by grind)
        have HN := hid hne
        clear hne ho
        go_wp2_with fail
        refine (rSame_n RA19.out RB19.out (by decide) (by decide)).mono ?_
        rintro e w20 ⟨rfl, hb⟩
        rw [HN.out]
        have HW20 := hid (HW19.out.trans (hb.mono HW19.out.size))
        clear hb
        go_wp2
        go_ret
        exact ⟨rfl, HW20.out⟩
end Go.Proofs.YtgklbedaebiglaaGreatDoor

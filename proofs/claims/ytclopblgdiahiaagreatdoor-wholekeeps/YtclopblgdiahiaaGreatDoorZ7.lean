/-
  The walk of the statements' own look at answers of whole that the document fixes (awake). What the walks of whole's statements share: light, boxes and numbers carried along. The walk of the statement's answers: the whole numbers that whole's calls answer, each with limbs in a block of its own. The walk of WholeRest. The walk of the statement WholeKeeps.
-/
import Derived.Test.YtclopblgdiahiaaGreatDoorZ6
import Derived.Test.YtclopblgdiahiaaGreatDoorZ2
import Derived.Test.YtclopblgdiahiaaGreatDoorZ5
import Derived.BigQuiet
import Derived.Deep.RegionHeld3
namespace Go.Proofs.YtclopblgdiahiaaGreatDoor
open Go.RowKit

theorem Own.tg {w base ao n cap f} (h : Own .u64 28 w base (.slice ao n cap) n f) : Tg w ao := fun a ha => by
  obtain ⟨h1, h2⟩ := h
  rcases h2 with ⟨hv, _⟩ | ⟨g, cap', cur, hv, hb, hg, hn, hm, hs, ht⟩
  · cases hv; cases ha
  · cases hv; cases ha; exact ⟨_, _, hg⟩
theorem text_63 : Lib.decDigits 9223372036854775808 = [57, 50, 50, 51, 51, 55, 50, 48, 51, 54, 56, 53, 52, 55, 55, 53, 56, 48, 56] := by
  have hn : Lib.nDigits 9223372036854775808 = 19 := Lib.nDigits_unique 18 _ (by decide) (by decide)
  rw [Lib.decDigits_eq, hn]
  decide +kernel
/-- Text of -2^63. -/
theorem wtxt_63 {s : Bool} {f : Nat → Int} {n : Nat} (hf : Lm f n) (hw : wfB s f n = true) (hv : wv s f n = -9223372036854775808) : wtxt s f n = ⟨#[45, 57, 50, 50, 51, 51, 55, 50, 48, 51, 54, 56, 53, 52, 55, 55, 53, 56, 48, 56]⟩ ∧ wter s f n = 0 := by
  have h0 := vf_nonneg hf
  have hfm : fmB f n = true := (fmB_iff f n).2 (fm_of_wfB hw)
  cases s
  · rw [wv_false] at hv; omega
  · rw [wv_true] at hv
    have e : (vf f n).toNat = 9223372036854775808 := by omega
    refine ⟨?_, by simp [wter, hw]⟩
    unfold wtxt txt
    rw [if_pos hw, if_pos rfl, if_pos hfm, e, text_63]
    rfl

theorem kN0 {w : World} {x y : Value} {t : TypeId} : (w.alloc (.cells #[x, y] t)).cell? ⟨w.heap.size, 0, none⟩ = some x := by simp [go_sem]
theorem kN1 {w : World} {x y : Value} {t : TypeId} : (w.alloc (.cells #[x, y] t)).cell? ⟨w.heap.size, 1, none⟩ = some y := by simp [go_sem]
theorem keep2' {w w1 w2 : World} {a0 a1 c0 c1 : Value} (hb : Below w1.heap.size w1 w2) (h : w.heap.size + 1 < w1.heap.size ∧ w1.cell? ⟨w.heap.size, 0, none⟩ = some a0 ∧ w1.cell? ⟨w.heap.size, 1, none⟩ = some a1 ∧ w1.cell? ⟨w.heap.size + 1, 0, none⟩ = some c0 ∧ w1.cell? ⟨w.heap.size + 1, 1, none⟩ = some c1) (hw : Below w.heap.size w w1) :
    (w.heap.size + 1 < w2.heap.size ∧ w2.cell? ⟨w.heap.size, 0, none⟩ = some a0 ∧ w2.cell? ⟨w.heap.size, 1, none⟩ = some a1 ∧ w2.cell? ⟨w.heap.size + 1, 0, none⟩ = some c0 ∧ w2.cell? ⟨w.heap.size + 1, 1, none⟩ = some c1) ∧ Below w.heap.size w w2 := by
  obtain ⟨h1, h2⟩ := bcell hb
  have hz := hb.size
  obtain ⟨z, a, b, e, f⟩ := h
  exact ⟨⟨by omega, (h1 _ _ (by omega)).trans a, (h1 _ _ (by omega)).trans b, (h1 _ _ (by omega)).trans e, (h1 _ _ (by omega)).trans f⟩, hw.trans (hb.mono hw.size)⟩
theorem sb_m12 : Sb ⟨#[45, 49, 50]⟩ 3 (fun k => if k = 0 then 45 else if k = 1 then 49 else 50) := ⟨rfl, fun k h => by
  have hk : k < 3 := h
  rcases (show k = 0 ∨ k = 1 ∨ k = 2 by omega) with rfl | rfl | rfl <;> rfl⟩
theorem read_m12 {r : Bool} {k : Nat} {f : Nat → Int} {er : Int} (h : WRead 3 (fun k => if k = 0 then 45 else if k = 1 then 49 else 50) r k f er) : er = 0 ∧ wv r f k = -12 := by
  have hn : IsNum (bsh (fun k => if k = 0 then 45 else if k = 1 then 49 else 50) 1) (3 - 1) := ⟨(digB_iff _ _).1 (by decide), by decide, .inr (by decide)⟩
  have hd : dn (bsh (fun k => if k = 0 then 45 else if k = 1 then 49 else 50) 1) (3 - 1) = 12 := by decide
  rcases h with ⟨h1, _⟩ | ⟨_, _, _, _, _, h1, h2⟩ | ⟨_, h1, _⟩ | ⟨_, h1, _⟩
  · omega
  · rw [hd] at h2; exact ⟨h1, h2⟩
  · exact absurd ⟨by decide, rfl⟩ h1
  · exact absurd ⟨by decide, rfl, hn, by rw [hd]; decide⟩ h1
theorem kCb {w w' : World} {a : Addr} {v : Value} (hb : Below w.heap.size w w') (h : w.cell? a = some v) : w'.cell? a = some v := (hb.cell (World.block_lt_of_cell? w a h)).trans h
theorem kBa {w0 w : World} {o : Obj} (h : Below w0.heap.size w0 w) : Below w0.heap.size w0 (w.alloc o) := below_alloc h o
theorem kBb {w0 w w' : World} (hb : Below w.heap.size w w') (h : Below w0.heap.size w0 w) : Below w0.heap.size w0 w' := h.trans (hb.mono h.size)
theorem same_got {s t : Bool} {ao bo : Option Addr} {n m ca cb : Nat} {f g : Nat → Int} {w0 w1 W0 W : World} {C D : Nat} {z : Int} (h1 : WRes C w0 w1 s ao n ca f) (hv : wv s f n = z) (hW : Below w1.heap.size w1 W) (h2 : WRes D W0 W t bo m cb g) (hv2 : wv t g m = z) (hC : C ≤ 140737488355328) (hD : D ≤ 140737488355328) :
    Calls Tryz.prog 11 #[.agg #[.bool s, .slice ao n ca], .agg #[.bool t, .slice bo m cb]] W fun e w' => e = .returned (.bool true) ∧ Below W.heap.size W w' :=
  wSame_true s t ao bo n m ca cb f g W (Nat.le_trans h1.res.le hC) (Nat.le_trans h2.res.le hD) (h1.res.rd.below hW (Nat.le_refl _)) h2.res.rd h1.res.lm h2.res.lm h1.wfB h2.wfB (hv.trans hv2.symm)

set_option maxRecDepth 100000 in
set_option maxHeartbeats 4000000 in
theorem wAwake_c (w : World) (htab : Tab w) : Calls Tryz.prog 7 #[] w fun e w' => e = .returned (.bool true) ∧ Below w.heap.size w w' := by
  have HTab := hid htab
  clear htab
  go_enter Tryz.func7, Tryz.ntmps7
  go_wp2_with fail
  refine (wOf_c (-7) _ (by decide) (by decide)).mono ?_
  rintro e w1 ⟨s1, a1, k1, c1, f1, rfl, hr1, hv1⟩
  have R1 := hid hr1; have V1 := hid hv1
  clear hr1 hv1
  go_wp2_with fail
  refine (wOf_c 2 _ (by decide) (by decide)).mono ?_
  rintro e w2 ⟨s2, a2, k2, c2, f2, rfl, hr2, hv2⟩
  have R2 := hid hr2; have V2 := hid hv2
  have R1b := hid (R1.out.res.later hr2.res.bel)
  clear hr2 hv2
  go_wp2_with fail
  have hk1 : k1 ≤ 1 := R1.out.res.le
  have hk2 : k2 ≤ 1 := R2.out.res.le
  refine (wDivide_c s1 s2 a1 a2 k1 k2 c1 c2 f1 f2 _ (by omega) (by omega) R1b.out.rd R2.out.res.rd R1.out.res.lm R2.out.res.lm).mono ?_
  rintro e w3 ⟨s3, a3, k3, c3, q, s4, a4, k4, c4, r, er, rfl, hq, hr, hd⟩
  have hdd : er = 0 ∧ wv s3 q k3 = -4 ∧ wv s4 r k4 = 1 := by
    have hw2 : W2 s1 f1 k1 s2 f2 k2 := ⟨R1.out.wfB, R2.out.wfB⟩
    rcases hd with ⟨_, _, h1, h2, h3⟩ | ⟨_, h1, _⟩ | ⟨h1, _⟩
    · rw [V1.out, V2.out] at h2
      rw [V2.out] at h3
      refine ⟨h1, ?_, ?_⟩ <;> omega
    · have := V2.out; subst h1; cases s2 <;> simp [wv, vf] at this
    · exact absurd hw2 h1
  obtain ⟨rfl, hq4, hr1⟩ := hdd
  have Q := hid hq; have R := hid hr; have VQ := hid hq4; have VR := hid hr1
  have HW3 := hid (show Below w.heap.size w w3 from (R1.out.res.bel.trans (R2.out.res.bel.mono R1.out.res.bel.size)).trans (hq.res.bel.mono (Nat.le_trans R1.out.res.bel.size R2.out.res.bel.size)))
  clear hq hr hd hq4 hr1 R1 R2 R1b V1 V2
  go_wp2_with fail
  refine (wOf_c (-9223372036854775808) _ (by decide) (by decide)).mono ?_
  rintro e w4 ⟨s5, a5, k5, c5, f5, rfl, hr5, hv5⟩
  obtain ⟨⟨hz, x0, x1, y0, y1⟩, _, hw⟩ := boxes2' hr5.res.bel
  have hk5 : k5 ≤ 1 := hr5.res.le
  have hT4 : Tab w4 := HTab.out.below (HW3.out.trans (hw.mono HW3.out.size)) HTab.out.lt
  have ct := wText_c s5 a5 k5 c5 f5 w4 (by omega) hr5.res.rd hr5.res.own.tg hr5.res.lm hT4 hr5.res.ncap.1 hr5.res.ncap.2
  rw [(wtxt_63 hr5.res.lm hr5.wfB hv5).1, (wtxt_63 hr5.res.lm hr5.wfB hv5).2] at ct
  have CT := hid ct; have HW4 := hid hw
  clear ct hr5 hv5 hT4 hw hk5
  go_wp2_with fail
  refine CT.out.mono ?_
  rintro e w5 ⟨rfl, hb5⟩
  obtain ⟨⟨hz, x0, x1, y0, y1⟩, hw⟩ := keep2' hb5 ⟨hz, x0, x1, y0, y1⟩ HW4.out
  have HW5 := hid hw
  clear hb5 hw CT
  have CRd := hid (wRead_c ⟨#[45, 49, 50]⟩ 3 (fun k => if k = 0 then 45 else if k = 1 then 49 else 50) w5 sb_m12 (by decide))
  go_wp2_with fail
  refine CRd.out.mono ?_
  rintro e w6 ⟨s6, a6, k6, c6, f6, er, rfl, hr6, hrd⟩
  obtain ⟨rfl, hv6⟩ := read_m12 hrd
  obtain ⟨⟨hz, x0, x1, y0, y1⟩, hw⟩ := keep2' hr6.res.bel ⟨hz, x0, x1, y0, y1⟩ HW5.out
  have R6 := hid hr6; have V6 := hid hv6; have HW6 := hid hw
  clear hr6 hrd hv6 hw CRd
  have CS3 : Hid (∀ (W W0 : World) (t : Bool) (bo : Option Addr) (m cb : Nat) (g : Nat → Int), Below w3.heap.size w3 W → WRes 2 W0 W t bo m cb g → wv t g m = -4 → Calls Tryz.prog 11 #[.agg #[.bool s3, .slice a3 k3 c3], .agg #[.bool t, .slice bo m cb]] W fun e w' => e = .returned (.bool true) ∧ Below W.heap.size W w') := fun W W0 t bo m cb g hW h2 hv2 => same_got Q.out VQ.out hW h2 hv2 (by omega) (by omega)
  have CS4 : Hid (∀ (W W0 : World) (t : Bool) (bo : Option Addr) (m cb : Nat) (g : Nat → Int), Below w3.heap.size w3 W → WRes 2 W0 W t bo m cb g → wv t g m = 1 → Calls Tryz.prog 11 #[.agg #[.bool s4, .slice a4 k4 c4], .agg #[.bool t, .slice bo m cb]] W fun e w' => e = .returned (.bool true) ∧ Below W.heap.size W w') := fun W W0 t bo m cb g hW h2 hv2 => same_got R.out VR.out hW h2 hv2 (by omega) (by omega)
  have CS6 : Hid (∀ (W W0 : World) (t : Bool) (bo : Option Addr) (m cb : Nat) (g : Nat → Int), Below w6.heap.size w6 W → WRes 2 W0 W t bo m cb g → wv t g m = -12 → Calls Tryz.prog 11 #[.agg #[.bool s6, .slice a6 k6 c6], .agg #[.bool t, .slice bo m cb]] W fun e w' => e = .returned (.bool true) ∧ Below W.heap.size W w') := fun W W0 t bo m cb g hW h2 hv2 => same_got R6.out V6.out hW h2 hv2 (by omega) (by omega)
  have CF : Hid (∀ (W : World), Calls Tryz.prog 37 #[.agg #[.bool true, .slice none 0 0]] W fun e w' => e = .returned (.bool false) ∧ Below W.heap.size W w') := fun W => wForm_c true none 0 0 (fun _ => 0) W (by omega) Rd.zero
  have hW36 : Below w3.heap.size w3 w6 := HW6.out
  go_wp2
  go_region_held3 (fun w' => w'.cell? ⟨w3.heap.size, 0, none⟩ = some (.bool s3) ∧ w'.cell? ⟨w3.heap.size, 1, none⟩ = some (.slice a3 k3 c3) ∧ w'.cell? ⟨w3.heap.size + 1, 0, none⟩ = some (.bool s4) ∧ w'.cell? ⟨w3.heap.size + 1, 1, none⟩ = some (.slice a4 k4 c4) ∧ w'.cell? ⟨w6.heap.size, 0, none⟩ = some (.bool s6) ∧ w'.cell? ⟨w6.heap.size, 1, none⟩ = some (.slice a6 k6 c6))
    (refine ⟨?_, ?_, ?_, ?_, ?_, ?_⟩ <;> repeat (with_reducible first | assumption | exact kN0 | exact kN1 | refine kCd ?_ | refine kCa ?_ | refine kCb (by assumption) ?_))
    (first
      | (go_at_call 36; refine (docOf_c _ _ (by decide) (by decide)).mono ?_; rintro e w7 ⟨s7, a7, k7, c7, f7, rfl, hr7, hv7⟩; have hb7 := hr7.res.bel)
      | (go_at_call 11; with_reducible refine (CS3.out _ _ s7 a7 k7 c7 f7 (by repeat (with_reducible first | assumption | exact Below.refl _ _ | refine Below.drew ?_ | refine kBa ?_ | refine kBb (by assumption) ?_)) hr7 hv7).mono ?_; rintro e w8 ⟨rfl, hb8⟩)
      | (go_at_call 11; with_reducible refine (CS4.out _ _ s7 a7 k7 c7 f7 (by repeat (with_reducible first | assumption | exact Below.refl _ _ | refine Below.drew ?_ | refine kBa ?_ | refine kBb (by assumption) ?_)) hr7 hv7).mono ?_; rintro e w8 ⟨rfl, hb8⟩)
      | (go_at_call 11; with_reducible refine (CS6.out _ _ s7 a7 k7 c7 f7 (by repeat (with_reducible first | assumption | exact Below.refl _ _ | refine Below.drew ?_ | refine kBa ?_ | refine kBb (by assumption) ?_)) hr7 hv7).mono ?_; rintro e w8 ⟨rfl, hb8⟩)
      | (go_at_call 37; with_reducible refine (CF.out _).mono ?_; rintro e w9 ⟨rfl, hb9⟩))
  all_goals
    go_wp2
    go_ret
    exact ⟨rfl, HW3.out.trans (Below.mono (by repeat (with_reducible first | assumption | exact Below.refl _ _ | refine Below.drew ?_ | refine kBa ?_ | refine kBb (by assumption) ?_)) HW3.out.size)⟩
end Go.Proofs.YtclopblgdiahiaaGreatDoor
namespace Go.Proofs.YtclopblgdiahiaaGreatDoor
open Go.RowKit

/-- A box at block b holds this whole number. -/
def Bx (w : World) (b : Nat) (s : Bool) (x : Option Addr) (n c : Nat) : Prop := b < w.heap.size ∧ w.cell? ⟨b, 0, none⟩ = some (.bool s) ∧ w.cell? ⟨b, 1, none⟩ = some (.slice x n c)
theorem Bx.below {w w' : World} {b : Nat} {s x n c} (h : Bx w b s x n c) (hb : Below w.heap.size w w') : Bx w' b s x n c := ⟨Nat.lt_of_lt_of_le h.1 hb.size, kCb hb h.2.1, kCb hb h.2.2⟩
theorem Bx.alloc {w : World} {b : Nat} {s x n c} (h : Bx w b s x n c) (o : Obj) : Bx (w.alloc o) b s x n c := ⟨by have := h.1; simp; omega, kCa h.2.1, kCa h.2.2⟩
theorem Bx.next {w w' : World} {b : Nat} {s x n c} {o : Obj} (h : Bx w b s x n c) (hb : Below (w.alloc o).heap.size (w.alloc o) w') : Bx w' b s x n c := (h.alloc o).below hb
theorem bx_new {w w' : World} {s x n c} {t : TypeId} (hb : Below (w.alloc (.cells #[.bool s, .slice x n c] t)).heap.size (w.alloc (.cells #[.bool s, .slice x n c] t)) w') : Bx w' w.heap.size s x n c :=
  ⟨by have := hb.size; simp at this; omega, kCb hb kN0, kCb hb kN1⟩
/-- A whole number in form that can be read. -/
structure Wn (w : World) (s : Bool) (x : Option Addr) (n c : Nat) (f : Nat → Int) (v : Int) : Prop where
  rd : Rd .u64 w x n f
  lm : Lm f n
  wf : wfB s f n = true
  cap : n ≤ c ∧ c ≤ 9223372036854775807
  nil : x = none → n = 0 ∧ c = 0
  val : wv s f n = v
theorem Wn.below {w w' : World} {s x n c f v} (h : Wn w s x n c f v) (hb : Below w.heap.size w w') : Wn w' s x n c f v := ⟨h.rd.below hb (Nat.le_refl _), h.lm, h.wf, h.cap, h.nil, h.val⟩
theorem Wn.alloc {w : World} {s x n c f v} (h : Wn w s x n c f v) (o : Obj) : Wn (w.alloc o) s x n c f v := ⟨h.rd.alloc o, h.lm, h.wf, h.cap, h.nil, h.val⟩
theorem Wn.next {w w' : World} {s x n c f v} {o : Obj} (h : Wn w s x n c f v) (hb : Below (w.alloc o).heap.size (w.alloc o) w') : Wn w' s x n c f v := (h.alloc o).below hb
theorem WRes.wn {C w w' s x n c f v} (h : WRes C w w' s x n c f) (hv : wv s f n = v) : Wn w' s x n c f v := ⟨h.res.rd, h.res.lm, h.wfB, h.res.ncap, h.res.nil', hv⟩
theorem WAns.ok {P : Prop} {v : Int} {r k f er} (h : WAns P v r k f er) (hp : P) : er = 0 ∧ wv r f k = v := by
  rcases h with ⟨_, h1, h2⟩ | ⟨h1, _⟩
  · exact ⟨h1, h2⟩
  · exact absurd hp h1
/-- Two numbers' calls, both in form. -/
theorem add_n {w : World} {s t x y n m c d f g u v} (ha : Wn w s x n c f u) (hb : Wn w t y m d g v) (hn : n ≤ 4096) (hm : m ≤ 4096) :
    Calls Tryz.prog 39 #[.agg #[.bool s, .slice x n c], .agg #[.bool t, .slice y m d]] w fun e w' => ∃ r z k e' h, e = .returned (.tuple #[.agg #[.bool r, .slice z k e'], .int .i64 0]) ∧ Below w.heap.size w w' ∧ k ≤ max n m + 1 ∧ Wn w' r z k e' h (u + v) := by
  refine (wAdd_c s t x y n m c d f g w (by omega) (by omega) ha.rd hb.rd ha.lm hb.lm).mono ?_
  rintro e w' ⟨r, z, k, e', h, er, rfl, hres, hans⟩
  obtain ⟨rfl, hv⟩ := hans.ok ⟨ha.wf, hb.wf⟩
  exact ⟨r, z, k, e', h, rfl, hres.res.bel, hres.res.le, hres.wn (by rw [hv, ha.val, hb.val])⟩
theorem sub_n {w : World} {s t x y n m c d f g u v} (ha : Wn w s x n c f u) (hb : Wn w t y m d g v) (hn : n ≤ 4096) (hm : m ≤ 4096) :
    Calls Tryz.prog 40 #[.agg #[.bool s, .slice x n c], .agg #[.bool t, .slice y m d]] w fun e w' => ∃ r z k e' h, e = .returned (.tuple #[.agg #[.bool r, .slice z k e'], .int .i64 0]) ∧ Below w.heap.size w w' ∧ k ≤ max n m + 1 ∧ Wn w' r z k e' h (u - v) := by
  refine (wSub_c s t x y n m c d f g w (by omega) (by omega) ha.rd hb.rd ha.lm hb.lm).mono ?_
  rintro e w' ⟨r, z, k, e', h, er, rfl, hres, hans⟩
  obtain ⟨rfl, hv⟩ := hans.ok ⟨ha.wf, hb.wf⟩
  exact ⟨r, z, k, e', h, rfl, hres.res.bel, hres.res.le, hres.wn (by rw [hv, ha.val, hb.val])⟩
theorem mul_n {w : World} {s t x y n m c d f g u v} (ha : Wn w s x n c f u) (hb : Wn w t y m d g v) (hn : n ≤ 4096) (hm : m ≤ 4096) :
    Calls Tryz.prog 41 #[.agg #[.bool s, .slice x n c], .agg #[.bool t, .slice y m d]] w fun e w' => ∃ r z k e' h, e = .returned (.tuple #[.agg #[.bool r, .slice z k e'], .int .i64 0]) ∧ Below w.heap.size w w' ∧ k ≤ n + m ∧ Wn w' r z k e' h (u * v) := by
  refine (wMul_c s t x y n m c d f g w (by omega) (by omega) ha.cap.1 hb.cap.1 ha.cap.2 hb.cap.2 ha.rd hb.rd ha.lm hb.lm).mono ?_
  rintro e w' ⟨r, z, k, e', h, er, rfl, hres, hans⟩
  obtain ⟨rfl, hv⟩ := hans.ok ⟨ha.wf, hb.wf⟩
  exact ⟨r, z, k, e', h, rfl, hres.res.bel, hres.res.le, hres.wn (by rw [hv, ha.val, hb.val])⟩
theorem neg_n {w : World} {s x n c f u} (ha : Wn w s x n c f u) (hn : n ≤ 4096) :
    Calls Tryz.prog 42 #[.agg #[.bool s, .slice x n c]] w fun e w' => ∃ r z k e' h, e = .returned (.tuple #[.agg #[.bool r, .slice z k e'], .int .i64 0]) ∧ Below w.heap.size w w' ∧ k ≤ n ∧ Wn w' r z k e' h (- u) := by
  refine (wNeg_c s x n c f w (by omega) ha.rd ha.nil ha.lm).mono ?_
  rintro e w' ⟨r, z, k, e', h, er, rfl, hres, hans⟩
  obtain ⟨rfl, hv⟩ := hans.ok ha.wf
  exact ⟨r, z, k, e', h, rfl, hres.res.bel, hres.res.le, hres.wn (by rw [hv, ha.val])⟩
theorem same_n {w : World} {s t x y n m c d f g u} (ha : Wn w s x n c f u) (hb : Wn w t y m d g u) (hn : n ≤ 4096) (hm : m ≤ 4096) :
    Calls Tryz.prog 11 #[.agg #[.bool s, .slice x n c], .agg #[.bool t, .slice y m d]] w fun e w' => e = .returned (.bool true) ∧ Below w.heap.size w w' :=
  wSame_true s t x y n m c d f g w (by omega) (by omega) ha.rd hb.rd ha.lm hb.lm ha.wf hb.wf (ha.val.trans hb.val.symm)
theorem form_n {w : World} {s x n c f u} (ha : Wn w s x n c f u) (hn : n ≤ 4096) :
    Calls Tryz.prog 37 #[.agg #[.bool s, .slice x n c]] w fun e w' => e = .returned (.bool true) ∧ Below w.heap.size w w' := by
  have := wForm_c s x n c f w (by omega) ha.rd
  rw [ha.wf] at this
  exact this

def lgt (n m : Nat) : Bool := decide (n ≤ 60) && decide (m ≤ 60)
theorem wLight_c (s t : Bool) (ao bo : Option Addr) (n m ca cb : Nat) (w : World) (hn : n ≤ 9223372036854775807) (hm : m ≤ 9223372036854775807) :
    Calls Tryz.prog 8 #[.agg #[.bool s, .slice ao n ca], .agg #[.bool t, .slice bo m cb]] w fun e w' => e = .returned (.bool (lgt n m)) ∧ Below w.heap.size w w' := by
  by_cases h1 : n ≤ 60
  · have d1 : decide ((n : Int) ≤ 60) = true := by simp; omega
    by_cases h2 : m ≤ 60
    · have d2 : decide ((m : Int) ≤ 60) = true := by simp; omega
      rw [show lgt n m = true by simp [lgt, h1, h2]]
      go_enter Tryz.func8, Tryz.ntmps8
      go_wp2
      go_ret
      exact ⟨rfl, below_alloc (below_alloc (Below.refl _ _) _) _⟩
    · have d2 : decide ((m : Int) ≤ 60) = false := by simp; omega
      rw [show lgt n m = false by simp [lgt, h2]]
      go_enter Tryz.func8, Tryz.ntmps8
      go_wp2
      go_ret
      exact ⟨rfl, below_alloc (below_alloc (Below.refl _ _) _) _⟩
  · have d1 : decide ((n : Int) ≤ 60) = false := by simp; omega
    rw [show lgt n m = false by simp [lgt, h1]]
    go_enter Tryz.func8, Tryz.ntmps8
    go_wp2
    go_ret
    exact ⟨rfl, below_alloc (below_alloc (Below.refl _ _) _) _⟩
end Go.Proofs.YtclopblgdiahiaaGreatDoor
namespace Go.Proofs.YtclopblgdiahiaaGreatDoor
open Go.RowKit

/-- Quotient and rest of whole numbers, rounded down. -/
def fq (a b : Int) : Int := if 0 < b then a / b else (-a) / (-b)
def fr (a b : Int) : Int := if 0 < b then a % b else -((-a) % (-b))
theorem flr_one {a b q r : Int} (h : Flr a b q r) : q = fq a b ∧ r = fr a b := by
  obtain ⟨h1, h2⟩ := h
  rcases h2 with ⟨b0, r0, r1⟩ | ⟨b0, r0, r1⟩
  · have e := (Int.ediv_emod_unique (a := a) (b := b) (r := r) (q := q) b0).2 ⟨by rw [h1, Int.mul_comm]; omega, r0, r1⟩
    unfold fq fr
    rw [if_pos b0, if_pos b0]
    exact ⟨e.1.symm, e.2.symm⟩
  · have e := (Int.ediv_emod_unique (a := -a) (b := -b) (r := -r) (q := q) (by omega)).2 ⟨by rw [h1, Int.neg_mul, Int.mul_comm b q]; omega, by omega, by omega⟩
    unfold fq fr
    rw [if_neg (by omega), if_neg (by omega)]
    exact ⟨e.1.symm, by rw [e.2]; omega⟩
/-- The number of the answer j. -/
noncomputable def wansV (s : Bool) (f : Nat → Int) (n : Nat) (t : Bool) (h : Nat → Int) (m : Nat) : Nat → Int
  | 0 => pick (W2 s f n t h m) (wv s f n + wv t h m)
  | 1 => pick (W2 s f n t h m) (wv s f n - wv t h m)
  | 2 => pick (W2 s f n t h m) (wv s f n * wv t h m)
  | 3 => pick (W1 s f n) (- wv s f n)
  | 4 => pick (W2 s f n t h m ∧ 0 < m) (fq (wv s f n) (wv t h m))
  | _ => pick (W2 s f n t h m ∧ 0 < m) (fr (wv s f n) (wv t h m))
theorem wv_k0 {r : Bool} {f : Nat → Int} {k : Nat} (h : k = 0) : wv r f k = 0 := by subst h; cases r <;> rfl
theorem wans_one {P : Prop} {v : Int} {r : Bool} {k : Nat} {f : Nat → Int} {er : Int} (h : WAns P v r k f er) : wv r f k = pick P v := by
  rcases h with ⟨a, _, e⟩ | ⟨a, _, e⟩
  · rw [pick_pos a, e]
  · rw [pick_neg a, wv_k0 e]
theorem wans_div {s t : Bool} {n m : Nat} {f h : Nat → Int} {r1 r2 : Bool} {k1 k2 : Nat} {q r : Nat → Int} {er : Int} (c : WDiv s t n m f h r1 r2 k1 k2 q r er) : wv r1 q k1 = wansV s f n t h m 4 ∧ wv r2 r k2 = wansV s f n t h m 5 := by
  show _ = pick _ _ ∧ _ = pick _ _
  rcases c with ⟨a, d, _, e⟩ | ⟨a, d, _, e, e'⟩ | ⟨a, _, e, e'⟩
  · obtain ⟨e1, e2⟩ := flr_one e
    rw [pick_pos ⟨a, d⟩, pick_pos ⟨a, d⟩]; exact ⟨e1, e2⟩
  · rw [pick_neg (fun x => by have := x.2; omega), pick_neg (fun x => by have := x.2; omega), wv_k0 e, wv_k0 e']; exact ⟨rfl, rfl⟩
  · rw [pick_neg (fun x => a x.1), pick_neg (fun x => a x.1), wv_k0 e, wv_k0 e']; exact ⟨rfl, rfl⟩

/-- One of the answers, before the row of all is laid. -/
structure WAn (C : Nat) (w0 w : World) (s : Bool) (l : Ls) (v : Int) : Prop where
  own : Lo .u64 28 w l
  loc : ∀ a, l.p = some a → w0.heap.size ≤ a.block
  lm : Lm l.f l.n
  wf : wfB s l.f l.n = true
  le : l.n ≤ C
  val : wv s l.f l.n = v
theorem WAn.later {C w0 w w' s l v} (h : WAn C w0 w s l v) (hb : Below w.heap.size w w') : WAn C w0 w' s l v := ⟨Own.below h.own hb, h.loc, h.lm, h.wf, h.le, h.val⟩
theorem WAn.und {C w0 w s l v} (h : WAn C w0 w s l v) : Und l.p w.heap.size := fun a ha => h.own.lt a ha
theorem WRes.wan {C D w0 w w' s ao n cap f v} (h : WRes C w w' s ao n cap f) (hb : Below w0.heap.size w0 w) (hC : C ≤ D) (hv : wv s f n = v) : WAn D w0 w' s ⟨ao, n, cap, f⟩ v :=
  ⟨Own.base h.res.own (Nat.zero_le _), fun a ha => Nat.le_trans hb.size (h.res.own.slice.2.2.2.2 a ha).1, h.res.lm, h.wfB, Nat.le_trans h.res.le hC, hv⟩
theorem WRes.apart {C w w' s a b n cap f} {B : Nat} (h : WRes C w w' s b n cap f) (ha : Und a B) (hB : B ≤ w.heap.size) : Apart a b := fun x y hx hy => by
  have h1 := ha x hx
  have h2 := (h.res.own.slice.2.2.2.2 y hy).1
  omega
/-- A box made and filled. -/
theorem box_set (w : World) (s : Bool) (x : Option Addr) (n c : Nat) (t : TypeId) : Below w.heap.size w (w.alloc (.cells #[.bool s, .slice x n c] t)) ∧ Bx (w.alloc (.cells #[.bool s, .slice x n c] t)) w.heap.size s x n c := ⟨below_alloc (Below.refl _ w) _, bx_new (Below.refl _ _)⟩
theorem all6 {P : Nat → Prop} (h0 : P 0) (h1 : P 1) (h2 : P 2) (h3 : P 3) (h4 : P 4) (h5 : P 5) : ∀ j, j < 6 → P j := by
  intro j hj
  match j, hj with
  | 0, _ => exact h0
  | 1, _ => exact h1
  | 2, _ => exact h2
  | 3, _ => exact h3
  | 4, _ => exact h4
  | 5, _ => exact h5
  | j + 6, h => omega
def six (a b c d e f : Ls) : Nat → Ls
  | 0 => a | 1 => b | 2 => c | 3 => d | 4 => e | _ => f
def sixB (a b c d e f : Bool) : Nat → Bool
  | 0 => a | 1 => b | 2 => c | 3 => d | 4 => e | _ => f
/-- Where the lists lie in a row of whole numbers, and what lies elsewhere. -/
def posW (j : Nat) : Nat := 2 * j + 1
def othW (S : Nat → Bool) (t : Nat) : Option Value := if t < 12 then some (.bool (S (t / 2))) else none
theorem posW_inj : ∀ i j, i < 6 → j < 6 → posW i = posW j → i = j := by
  intro i j _ _ h
  unfold posW at h
  omega
/-- Whole numbers that a call answers: in blocks of their own. -/
structure AnsW (C : Nat) (w w' : World) (g : Nat) (S : Nat → Bool) (L : Nat → Ls) (V : Nat → Int) : Prop where
  bel : Below w.heap.size w w'
  fam : FamP 24 w' g 6 posW (othW S) L
  gs : w.heap.size ≤ g
  own : ∀ j, j < 6 → Lo .u64 28 w' (L j)
  dis : ∀ j k, j < 6 → k < 6 → j ≠ k → Apart (L j).p (L k).p
  loc : ∀ j, j < 6 → ∀ a, (L j).p = some a → a.block ≠ g ∧ w.heap.size ≤ a.block
  lm : ∀ j, j < 6 → Lm (L j).f (L j).n
  wf : ∀ j, j < 6 → wfB (S j) (L j).f (L j).n = true
  le : ∀ j, j < 6 → (L j).n ≤ C
  val : ∀ j, j < 6 → wv (S j) (L j).f (L j).n = V j
theorem fam6 (w : World) (a b c d e f : Ls) (sa sb sc sd se sf : Bool) : FamP 24 (w.alloc (.cells #[.bool sa, .slice a.p a.n a.c, .bool sb, .slice b.p b.n b.c, .bool sc, .slice c.p c.n c.c, .bool sd, .slice d.p d.n d.c, .bool se, .slice e.p e.n e.c, .bool sf, .slice f.p f.n f.c] 24)) w.heap.size 6 posW (othW (sixB sa sb sc sd se sf)) (six a b c d e f) := by
  refine ⟨_, heap_alloc_new w _, all6 rfl rfl rfl rfl rfl rfl, fun t ht => ?_⟩
  by_cases h : t < 12
  · obtain ⟨k, rfl | rfl⟩ : ∃ k, t = 2 * k ∨ t = 2 * k + 1 := ⟨t / 2, by omega⟩
    · have hk : k < 6 := by omega
      unfold othW
      rw [if_pos h, show 2 * k / 2 = k by omega]
      revert k
      exact fun k _ _ hk => all6 (P := fun k => (#[.bool sa, .slice a.p a.n a.c, .bool sb, .slice b.p b.n b.c, .bool sc, .slice c.p c.n c.c, .bool sd, .slice d.p d.n d.c, .bool se, .slice e.p e.n e.c, .bool sf, .slice f.p f.n f.c] : Array Value)[2 * k]? = some (.bool (sixB sa sb sc sd se sf k))) rfl rfl rfl rfl rfl rfl k hk
    · exact absurd rfl (ht k (by omega))
  · unfold othW
    rw [if_neg h]
    exact Array.getElem?_eq_none (by simp; omega)
theorem ansW6 {C : Nat} {w0 w : World} {a b c d e f : Ls} {sa sb sc sd se sf : Bool} {V : Nat → Int} (hb : Below w0.heap.size w0 w) (h0 : WAn C w0 w sa a (V 0)) (h1 : WAn C w0 w sb b (V 1)) (h2 : WAn C w0 w sc c (V 2)) (h3 : WAn C w0 w sd d (V 3)) (h4 : WAn C w0 w se e (V 4)) (h5 : WAn C w0 w sf f (V 5))
    (d01 : Apart a.p b.p) (d02 : Apart a.p c.p) (d12 : Apart b.p c.p) (d03 : Apart a.p d.p) (d13 : Apart b.p d.p) (d23 : Apart c.p d.p) (d04 : Apart a.p e.p) (d14 : Apart b.p e.p) (d24 : Apart c.p e.p) (d34 : Apart d.p e.p) (d05 : Apart a.p f.p) (d15 : Apart b.p f.p) (d25 : Apart c.p f.p) (d35 : Apart d.p f.p) (d45 : Apart e.p f.p) :
    AnsW C w0 (w.alloc (.cells #[.bool sa, .slice a.p a.n a.c, .bool sb, .slice b.p b.n b.c, .bool sc, .slice c.p c.n c.c, .bool sd, .slice d.p d.n d.c, .bool se, .slice e.p e.n e.c, .bool sf, .slice f.p f.n f.c] 24)) w.heap.size (sixB sa sb sc sd se sf) (six a b c d e f) V := by
  refine ⟨hb.alloc hb.size _, fam6 w a b c d e f sa sb sc sd se sf, hb.size, all6 (h0.own.alloc _) (h1.own.alloc _) (h2.own.alloc _) (h3.own.alloc _) (h4.own.alloc _) (h5.own.alloc _), sym_dis (all6 ?_ ?_ ?_ ?_ ?_ ?_), all6 (fun x hx => ⟨Nat.ne_of_lt (h0.own.lt x hx), h0.loc x hx⟩) (fun x hx => ⟨Nat.ne_of_lt (h1.own.lt x hx), h1.loc x hx⟩) (fun x hx => ⟨Nat.ne_of_lt (h2.own.lt x hx), h2.loc x hx⟩) (fun x hx => ⟨Nat.ne_of_lt (h3.own.lt x hx), h3.loc x hx⟩) (fun x hx => ⟨Nat.ne_of_lt (h4.own.lt x hx), h4.loc x hx⟩) (fun x hx => ⟨Nat.ne_of_lt (h5.own.lt x hx), h5.loc x hx⟩), all6 h0.lm h1.lm h2.lm h3.lm h4.lm h5.lm, all6 h0.wf h1.wf h2.wf h3.wf h4.wf h5.wf, all6 h0.le h1.le h2.le h3.le h4.le h5.le, all6 h0.val h1.val h2.val h3.val h4.val h5.val⟩
  · intro j hj
    omega
  · intro j hj
    match j, hj with
    | 0, _ => exact d01
    | j + 1, h => omega
  · intro j hj
    match j, hj with
    | 0, _ => exact d02
    | 1, _ => exact d12
    | j + 2, h => omega
  · intro j hj
    match j, hj with
    | 0, _ => exact d03
    | 1, _ => exact d13
    | 2, _ => exact d23
    | j + 3, h => omega
  · intro j hj
    match j, hj with
    | 0, _ => exact d04
    | 1, _ => exact d14
    | 2, _ => exact d24
    | 3, _ => exact d34
    | j + 4, h => omega
  · intro j hj
    match j, hj with
    | 0, _ => exact d05
    | 1, _ => exact d15
    | 2, _ => exact d25
    | 3, _ => exact d35
    | 4, _ => exact d45
    | j + 5, h => omega

set_option maxRecDepth 100000 in
set_option maxHeartbeats 4000000 in
theorem wAnswers_c (s t : Bool) (ao bo : Option Addr) (n m ca cb : Nat) (f h : Nat → Int) (w : World) (hn : n ≤ 60) (hm : m ≤ 60) (hca : n ≤ ca) (hcb : m ≤ cb) (hcam : ca ≤ 9223372036854775807) (hcbm : cb ≤ 9223372036854775807) (hna : ao = none → n = 0 ∧ ca = 0) (hr : Rd .u64 w ao n f) (hs : Rd .u64 w bo m h) (hf : Lm f n) (hh : Lm h m) :
    Calls Tryz.prog 10 #[.agg #[.bool s, .slice ao n ca], .agg #[.bool t, .slice bo m cb]] w fun e w' => ∃ g S L, e = .returned (.slice (some ⟨g, 0, none⟩) 6 6) ∧ AnsW 2000 w w' g S L (wansV s f n t h m) := by
  have HF := hid hf; have HH := hid hh; have HNa := hid hna
  have hb0 := below_alloc (below_alloc (Below.refl w.heap.size w) (.cells #[.bool s, .slice ao n ca] 24)) (.cells #[.bool t, .slice bo m cb] 24)
  have HR := hid (hr.below hb0 (Nat.le_refl _)); have HS := hid (hs.below hb0 (Nat.le_refl _)); have HB := hid hb0
  have BA := hid ((bx_new (Below.refl _ (w.alloc (.cells #[.bool s, .slice ao n ca] 24)))).alloc (.cells #[.bool t, .slice bo m cb] 24))
  have BB : Hid (Bx ((w.alloc (.cells #[.bool s, .slice ao n ca] 24)).alloc (.cells #[.bool t, .slice bo m cb] 24)) (w.heap.size + 1) t bo m cb) := by
    have := bx_new (Below.refl _ ((w.alloc (.cells #[.bool s, .slice ao n ca] 24)).alloc (.cells #[.bool t, .slice bo m cb] 24)))
    rw [size_alloc1] at this
    exact this
  clear hr hs hf hh hb0 hna
  go_enter Tryz.func10, Tryz.ntmps10
  go_wp2_with fail
  refine (wAdd_c s t ao bo n m ca cb f h _ (by omega) (by omega) HR.out HS.out HF.out HH.out).mono ?_
  rintro e w1 ⟨r0, p0, k0, c0, f0, er, rfl, hres, hc⟩
  have hv : wv r0 f0 k0 = wansV s f n t h m 0 := wans_one hc
  have N0 := hid (hres.wan HB.out (D := 2000) (by omega) hv)
  have hb := hres.res.bel
  have YA := hid (BA.out.below hb)
  have YB := hid (BB.out.below hb)
  have HR2 := hid (HR.out.below hb (Nat.le_refl _)); have HS2 := hid (HS.out.below hb (Nat.le_refl _)); have HB2 := hid (HB.out.trans (hb.mono HB.out.size))
  clear HR HS HB  BA BB
  have HR := HR2; have HS := HS2; have HB := HB2
  clear HR2 HS2 HB2
  have BA := YA
  clear YA
  have BB := YB
  clear YB
  clear hres hc hv
  obtain ⟨hA1, hA2, hA3⟩ := BA.out; obtain ⟨hB1, hB2, hB3⟩ := BB.out
  clear hb
  have hbx := box_set w1 r0 p0 k0 c0 24
  have BN := hid hbx.2
  have M0 := hid (N0.out.later hbx.1)
  have YA := hid (BA.out.below hbx.1)
  have YB := hid (BB.out.below hbx.1)
  have HR2 := hid (HR.out.below hbx.1 (Nat.le_refl _)); have HS2 := hid (HS.out.below hbx.1 (Nat.le_refl _)); have HB2 := hid (HB.out.trans (hbx.1.mono HB.out.size))
  clear HR HS HB N0 BA BB
  have HR := HR2; have HS := HS2; have HB := HB2
  clear HR2 HS2 HB2
  have N0 := M0
  clear M0
  have BA := YA
  clear YA
  have BB := YB
  clear YB
  have B0 := BN
  clear BN
  clear hbx
  go_wp2_with fail
  clear hA1 hA2 hA3 hB1 hB2 hB3
  generalize hW0 : (w1.alloc (.cells #[.bool r0, .slice p0 k0 c0] 24)) = W0 at *
  clear hW0
  refine (wSub_c s t ao bo n m ca cb f h _ (by omega) (by omega) HR.out HS.out HF.out HH.out).mono ?_
  rintro e w2 ⟨r1, p1, k1, c1, f1, er, rfl, hres, hc⟩
  have hv : wv r1 f1 k1 = wansV s f n t h m 1 := wans_one hc
  have N1 := hid (hres.wan HB.out (D := 2000) (by omega) hv)
  have D01 := hid (hres.apart N0.out.und (Nat.le_refl _))
  have hb := hres.res.bel
  have M0 := hid (N0.out.later hb)
  have YA := hid (BA.out.below hb)
  have YB := hid (BB.out.below hb)
  have Y0 := hid (B0.out.below hb)
  have HR2 := hid (HR.out.below hb (Nat.le_refl _)); have HS2 := hid (HS.out.below hb (Nat.le_refl _)); have HB2 := hid (HB.out.trans (hb.mono HB.out.size))
  clear HR HS HB N0 BA BB B0
  have HR := HR2; have HS := HS2; have HB := HB2
  clear HR2 HS2 HB2
  have N0 := M0
  clear M0
  have BA := YA
  clear YA
  have BB := YB
  clear YB
  have B0 := Y0
  clear Y0
  clear hres hc hv
  obtain ⟨hA1, hA2, hA3⟩ := BA.out; obtain ⟨hB1, hB2, hB3⟩ := BB.out
  clear hb
  have hbx := box_set w2 r1 p1 k1 c1 24
  have BN := hid hbx.2
  have M0 := hid (N0.out.later hbx.1)
  have M1 := hid (N1.out.later hbx.1)
  have YA := hid (BA.out.below hbx.1)
  have YB := hid (BB.out.below hbx.1)
  have Y0 := hid (B0.out.below hbx.1)
  have HR2 := hid (HR.out.below hbx.1 (Nat.le_refl _)); have HS2 := hid (HS.out.below hbx.1 (Nat.le_refl _)); have HB2 := hid (HB.out.trans (hbx.1.mono HB.out.size))
  clear HR HS HB N0 N1 BA BB B0
  have HR := HR2; have HS := HS2; have HB := HB2
  clear HR2 HS2 HB2
  have N0 := M0
  clear M0
  have N1 := M1
  clear M1
  have BA := YA
  clear YA
  have BB := YB
  clear YB
  have B0 := Y0
  clear Y0
  have B1 := BN
  clear BN
  clear hbx
  go_wp2_with fail
  clear hA1 hA2 hA3 hB1 hB2 hB3
  generalize hW1 : (w2.alloc (.cells #[.bool r1, .slice p1 k1 c1] 24)) = W1 at *
  clear hW1
  refine (wMul_c s t ao bo n m ca cb f h _ (by omega) (by omega) hca hcb hcam hcbm HR.out HS.out HF.out HH.out).mono ?_
  rintro e w3 ⟨r2, p2, k2, c2, f2, er, rfl, hres, hc⟩
  have hv : wv r2 f2 k2 = wansV s f n t h m 2 := wans_one hc
  have N2 := hid (hres.wan HB.out (D := 2000) (by omega) hv)
  have D02 := hid (hres.apart N0.out.und (Nat.le_refl _))
  have D12 := hid (hres.apart N1.out.und (Nat.le_refl _))
  have hb := hres.res.bel
  have M0 := hid (N0.out.later hb)
  have M1 := hid (N1.out.later hb)
  have YA := hid (BA.out.below hb)
  have YB := hid (BB.out.below hb)
  have Y0 := hid (B0.out.below hb)
  have Y1 := hid (B1.out.below hb)
  have HR2 := hid (HR.out.below hb (Nat.le_refl _)); have HS2 := hid (HS.out.below hb (Nat.le_refl _)); have HB2 := hid (HB.out.trans (hb.mono HB.out.size))
  clear HR HS HB N0 N1 BA BB B0 B1
  have HR := HR2; have HS := HS2; have HB := HB2
  clear HR2 HS2 HB2
  have N0 := M0
  clear M0
  have N1 := M1
  clear M1
  have BA := YA
  clear YA
  have BB := YB
  clear YB
  have B0 := Y0
  clear Y0
  have B1 := Y1
  clear Y1
  clear hres hc hv
  obtain ⟨hA1, hA2, hA3⟩ := BA.out; obtain ⟨hB1, hB2, hB3⟩ := BB.out
  clear hb
  have hbx := box_set w3 r2 p2 k2 c2 24
  have BN := hid hbx.2
  have M0 := hid (N0.out.later hbx.1)
  have M1 := hid (N1.out.later hbx.1)
  have M2 := hid (N2.out.later hbx.1)
  have YA := hid (BA.out.below hbx.1)
  have YB := hid (BB.out.below hbx.1)
  have Y0 := hid (B0.out.below hbx.1)
  have Y1 := hid (B1.out.below hbx.1)
  have HR2 := hid (HR.out.below hbx.1 (Nat.le_refl _)); have HS2 := hid (HS.out.below hbx.1 (Nat.le_refl _)); have HB2 := hid (HB.out.trans (hbx.1.mono HB.out.size))
  clear HR HS HB N0 N1 N2 BA BB B0 B1
  have HR := HR2; have HS := HS2; have HB := HB2
  clear HR2 HS2 HB2
  have N0 := M0
  clear M0
  have N1 := M1
  clear M1
  have N2 := M2
  clear M2
  have BA := YA
  clear YA
  have BB := YB
  clear YB
  have B0 := Y0
  clear Y0
  have B1 := Y1
  clear Y1
  have B2 := BN
  clear BN
  clear hbx
  go_wp2_with fail
  clear hA1 hA2 hA3 hB1 hB2 hB3
  generalize hW2 : (w3.alloc (.cells #[.bool r2, .slice p2 k2 c2] 24)) = W2 at *
  clear hW2
  refine (wNeg_c s ao n ca f _ (by omega) HR.out HNa.out HF.out).mono ?_
  rintro e w4 ⟨r3, p3, k3, c3, f3, er, rfl, hres, hc⟩
  have hv : wv r3 f3 k3 = wansV s f n t h m 3 := wans_one hc
  have N3 := hid (hres.wan HB.out (D := 2000) (by omega) hv)
  have D03 := hid (hres.apart N0.out.und (Nat.le_refl _))
  have D13 := hid (hres.apart N1.out.und (Nat.le_refl _))
  have D23 := hid (hres.apart N2.out.und (Nat.le_refl _))
  have hb := hres.res.bel
  have M0 := hid (N0.out.later hb)
  have M1 := hid (N1.out.later hb)
  have M2 := hid (N2.out.later hb)
  have YA := hid (BA.out.below hb)
  have YB := hid (BB.out.below hb)
  have Y0 := hid (B0.out.below hb)
  have Y1 := hid (B1.out.below hb)
  have Y2 := hid (B2.out.below hb)
  have HR2 := hid (HR.out.below hb (Nat.le_refl _)); have HS2 := hid (HS.out.below hb (Nat.le_refl _)); have HB2 := hid (HB.out.trans (hb.mono HB.out.size))
  clear HR HS HB N0 N1 N2 BA BB B0 B1 B2
  have HR := HR2; have HS := HS2; have HB := HB2
  clear HR2 HS2 HB2
  have N0 := M0
  clear M0
  have N1 := M1
  clear M1
  have N2 := M2
  clear M2
  have BA := YA
  clear YA
  have BB := YB
  clear YB
  have B0 := Y0
  clear Y0
  have B1 := Y1
  clear Y1
  have B2 := Y2
  clear Y2
  clear hres hc hv
  obtain ⟨hA1, hA2, hA3⟩ := BA.out; obtain ⟨hB1, hB2, hB3⟩ := BB.out
  clear hb
  have hbx := box_set w4 r3 p3 k3 c3 24
  have BN := hid hbx.2
  have M0 := hid (N0.out.later hbx.1)
  have M1 := hid (N1.out.later hbx.1)
  have M2 := hid (N2.out.later hbx.1)
  have M3 := hid (N3.out.later hbx.1)
  have YA := hid (BA.out.below hbx.1)
  have YB := hid (BB.out.below hbx.1)
  have Y0 := hid (B0.out.below hbx.1)
  have Y1 := hid (B1.out.below hbx.1)
  have Y2 := hid (B2.out.below hbx.1)
  have HR2 := hid (HR.out.below hbx.1 (Nat.le_refl _)); have HS2 := hid (HS.out.below hbx.1 (Nat.le_refl _)); have HB2 := hid (HB.out.trans (hbx.1.mono HB.out.size))
  clear HR HS HB N0 N1 N2 N3 BA BB B0 B1 B2
  have HR := HR2; have HS := HS2; have HB := HB2
  clear HR2 HS2 HB2
  have N0 := M0
  clear M0
  have N1 := M1
  clear M1
  have N2 := M2
  clear M2
  have N3 := M3
  clear M3
  have BA := YA
  clear YA
  have BB := YB
  clear YB
  have B0 := Y0
  clear Y0
  have B1 := Y1
  clear Y1
  have B2 := Y2
  clear Y2
  have B3 := BN
  clear BN
  clear hbx
  go_wp2_with fail
  clear hA1 hA2 hA3 hB1 hB2 hB3
  generalize hW3 : (w4.alloc (.cells #[.bool r3, .slice p3 k3 c3] 24)) = W3 at *
  clear hW3
  refine (wDivide_cA s t ao bo n m ca cb f h _ (by omega) (by omega) HR.out HS.out HF.out HH.out).mono ?_
  rintro e w5 ⟨r4, p4, k4, c4, f4, r5, p5, k5, c5, f5, er, rfl, hres, hres2, hc, hap⟩
  have hv := wans_div hc
  have N4 := hid (hres.wan HB.out (D := 2000) (by omega) hv.1)
  have N5 := hid (hres2.wan HB.out (D := 2000) (by omega) hv.2)
  have D45 := hid hap
  have D04 := hid (hres.apart N0.out.und (Nat.le_refl _)); have D05 := hid (hres2.apart N0.out.und (Nat.le_refl _))
  have D14 := hid (hres.apart N1.out.und (Nat.le_refl _)); have D15 := hid (hres2.apart N1.out.und (Nat.le_refl _))
  have D24 := hid (hres.apart N2.out.und (Nat.le_refl _)); have D25 := hid (hres2.apart N2.out.und (Nat.le_refl _))
  have D34 := hid (hres.apart N3.out.und (Nat.le_refl _)); have D35 := hid (hres2.apart N3.out.und (Nat.le_refl _))
  have hb := hres.res.bel
  have M0 := hid (N0.out.later hb)
  have M1 := hid (N1.out.later hb)
  have M2 := hid (N2.out.later hb)
  have M3 := hid (N3.out.later hb)
  have YA := hid (BA.out.below hb)
  have YB := hid (BB.out.below hb)
  have Y0 := hid (B0.out.below hb)
  have Y1 := hid (B1.out.below hb)
  have Y2 := hid (B2.out.below hb)
  have Y3 := hid (B3.out.below hb)
  have HR2 := hid (HR.out.below hb (Nat.le_refl _)); have HS2 := hid (HS.out.below hb (Nat.le_refl _)); have HB2 := hid (HB.out.trans (hb.mono HB.out.size))
  clear HR HS HB N0 N1 N2 N3 BA BB B0 B1 B2 B3
  have HR := HR2; have HS := HS2; have HB := HB2
  clear HR2 HS2 HB2
  have N0 := M0
  clear M0
  have N1 := M1
  clear M1
  have N2 := M2
  clear M2
  have N3 := M3
  clear M3
  have BA := YA
  clear YA
  have BB := YB
  clear YB
  have B0 := Y0
  clear Y0
  have B1 := Y1
  clear Y1
  have B2 := Y2
  clear Y2
  have B3 := Y3
  clear Y3
  clear hres hc hv hres2 hap
  obtain ⟨bA1, bA2, bA3⟩ := BA.out
  obtain ⟨bB1, bB2, bB3⟩ := BB.out
  obtain ⟨b01, b02, b03⟩ := B0.out
  obtain ⟨b11, b12, b13⟩ := B1.out
  obtain ⟨b21, b22, b23⟩ := B2.out
  obtain ⟨b31, b32, b33⟩ := B3.out
  clear hb BA BB B0 B1 B2 B3
  go_wp2
  go_ret
  have ha := below_alloc (Below.refl w5.heap.size w5) (.cells #[.bool r4, .slice p4 k4 c4] 24)
  have ha2 := ha.trans ((below_alloc (Below.refl _ (w5.alloc (.cells #[.bool r4, .slice p4 k4 c4] 24))) (.cells #[.bool r5, .slice p5 k5 c5] 24)).mono (by simp))
  have hans := ansW6 (HB.out.trans (ha2.mono HB.out.size)) (N0.out.later ha2) (N1.out.later ha2) (N2.out.later ha2) (N3.out.later ha2) (N4.out.later ha2) (N5.out.later ha2) D01.out D02.out D12.out D03.out D13.out D23.out D04.out D14.out D24.out D34.out D05.out D15.out D25.out D35.out D45.out
  rw [size_alloc1, size_alloc1] at hans
  exact ⟨_, _, _, rfl, hans⟩
end Go.Proofs.YtclopblgdiahiaaGreatDoor
namespace Go.Proofs.YtclopblgdiahiaaGreatDoor
open Go.RowKit

theorem abs_lt_flr {t r2 : Bool} {g r : Nat → Int} {m k2 : Nat} {A Q : Int} (hg : Lm g m) (hr : Lm r k2) (fr : wfB r2 r k2 = true) (h : Flr A (wv t g m) Q (wv r2 r k2)) : vf r k2 < vf g m ∧ (0 < k2 → r2 = t) := by
  have h1 := vf_nonneg hg; have h2 := vf_nonneg hr
  obtain ⟨_, h3⟩ := h
  have hp : 0 < k2 → 0 < vf r k2 := fun hk => vf_pos hr (fm_of_wfB fr) hk
  have hz : k2 = 0 → vf r k2 = 0 := fun hk => by subst hk; rfl
  by_cases hk : 0 < k2
  · have := hp hk
    cases t <;> cases r2 <;> simp only [wv_false, wv_true] at h3
    · exact ⟨by omega, fun _ => rfl⟩
    · omega
    · omega
    · exact ⟨by omega, fun _ => rfl⟩
  · have := hz (by omega)
    refine ⟨?_, fun h => absurd h hk⟩
    cases t <;> cases r2 <;> simp only [wv_false, wv_true] at h3 <;> omega

theorem kRa {w : World} {x : Option Addr} {n : Nat} {f : Nat → Int} {o : Obj} (h : Rd .u64 w x n f) : Rd .u64 (w.alloc o) x n f := h.alloc o
theorem kRb {w w' : World} {x : Option Addr} {n : Nat} {f : Nat → Int} (hb : Below w.heap.size w w') (h : Rd .u64 w x n f) : Rd .u64 w' x n f := h.below hb (Nat.le_refl _)
theorem kRd {w : World} {x : Option Addr} {n : Nat} {f : Nat → Int} (h : Rd .u64 w x n f) : Rd .u64 w.drew x n f := h
theorem kM0 {w : World} {g : Nat} {x y : Value} {t : TypeId} (h : g = w.heap.size) : (w.alloc (.cells #[x, y] t)).cell? ⟨g, 0, none⟩ = some x := by subst h; exact kN0
theorem kM1 {w : World} {g : Nat} {x y : Value} {t : TypeId} (h : g = w.heap.size) : (w.alloc (.cells #[x, y] t)).cell? ⟨g, 1, none⟩ = some y := by subst h; exact kN1
theorem kCe {w : World} {a : Addr} {v : Value} (h : (w.cell? a).isSome = true) : (w.setCell a v).cell? a = some v := World.cell?_setCell_same' w a v h
theorem kCo {w : World} {b i j : Nat} {u v : Value} (hij : i ≠ j) (h : w.cell? ⟨b, j, none⟩ = some u) : (w.setCell ⟨b, i, none⟩ v).cell? ⟨b, j, none⟩ = some u := by
  rw [World.cell?_setCell_other _ _ _ _ (fun he => hij (congrArg Addr.off he))]; exact h
theorem kIb {w w' : World} {a : Addr} (hb : Below w.heap.size w w') (h : (w.cell? a).isSome = true) : (w'.cell? a).isSome = true := by
  obtain ⟨u, hu⟩ := Option.isSome_iff_exists.1 h
  rw [kCb hb hu]; rfl
/-- What stands behind the quotient. -/
structure RestAt (w w2 wx : World) (sa : Bool) (ao : Option Addr) (n ca : Nat) (f : Nat → Int) (sb : Bool) (bo : Option Addr) (m cb : Nat) (g : Nat → Int) (b5 b6 : Nat) (r1 : Bool) (p1 : Option Addr) (k1 c1 : Nat) (q : Nat → Int) (r2 : Bool) (p2 : Option Addr) (k2 c2 : Nat) (r : Nat → Int) (er : Int) : Prop where
  ba : Bx wx w.heap.size sa ao n ca
  bb : Bx wx (w.heap.size + 1) sb bo m cb
  bq : Bx wx b5 r1 p1 k1 c1
  br : Bx wx b6 r2 p2 k2 c2
  bel : Below w2.heap.size w2 wx
  wq : ∃ v, Wn wx r1 p1 k1 c1 q v
  wr : ∃ v, Wn wx r2 p2 k2 c2 r v
  k1le : k1 ≤ n + 2
  k2le : k2 ≤ n + m + 1
  dv : WDiv sa sb n m f g r1 r2 k1 k2 q r er

theorem rest_hold {w w2 wx W5 w5 : World} {sa : Bool} {ao : Option Addr} {n ca : Nat} {f : Nat → Int} {sb : Bool} {bo : Option Addr} {m cb : Nat} {g : Nat → Int} {b5 b6 : Nat} {r1 : Bool} {p1 : Option Addr} {k1 c1 : Nat} {q : Nat → Int} {r2 : Bool} {p2 : Option Addr} {k2 c2 : Nat} {r : Nat → Int} {er : Int}
    (hW : Below w2.heap.size w2 W5) (hD : WRes (n + 2) W5 w5 r1 p1 k1 c1 q ∧ WRes (n + m + 1) W5 w5 r2 p2 k2 c2 r ∧ WDiv sa sb n m f g r1 r2 k1 k2 q r er) (hT : Turned w2.heap.size W5.heap.size w5 wx)
    (ba : Bx wx w.heap.size sa ao n ca) (bb : Bx wx (w.heap.size + 1) sb bo m cb) (bq : Bx wx b5 r1 p1 k1 c1) (br : Bx wx b6 r2 p2 k2 c2) :
    RestAt w w2 wx sa ao n ca f sb bo m cb g b5 b6 r1 p1 k1 c1 q r2 p2 k2 c2 r er := by
  have hQ := hD.1.res.turned hW hT
  have hR := hD.2.1.res.turned hW hT
  exact ⟨ba, bb, bq, br, hQ.bel, ⟨_, hQ.rd, hQ.lm, hD.1.wfB, hQ.ncap, hQ.nil', rfl⟩, ⟨_, hR.rd, hR.lm, hD.2.1.wfB, hR.ncap, hR.nil', rfl⟩, hQ.le, hR.le, hD.2.2⟩

end Go.Proofs.YtclopblgdiahiaaGreatDoor
namespace Go.Proofs.YtclopblgdiahiaaGreatDoor
open Go.RowKit

/-- The same at a step of a region that draws its order. -/
theorem step_append_where {P : Program} (k : IntKind) (w : World) {ops : Array Oper} {o : Oper} {a : Act} {K : Act → World → Prop} {Q : Exit → Act → World → Prop} {E : Prop} (hgd : o.guard = none) (s x : Operand) (t : TypeId)
    (ho : o.op = .call { callee := .builtin .append, args := #[s, x], argTypes := #[t, t] })
    (base : Nat) (e : TypeId) (bytes : Nat) (ht : P.underlying t = some (.slice e)) (h2 : (P.info? e).map (fun i => (i.zero, i.size, i.bytes)) = some (some (.int k 0), 1, bytes))
    (ao : Option Addr) (n cap : Nat) (f : Nat → Int) (hs : a.eval s = .slice ao n cap) (hown : Own k e w base (.slice ao n cap) n f)
    (b ob m c : Nat) (h : Nat → Int) (hx : a.eval x = .slice (some ⟨b, ob, none⟩) m c) (hr : Rd k w (some ⟨b, ob, none⟩) m h) (hm0 : 0 < m)
    (h63 : n + m ≤ maxLen) (hbytes : (n + m) * bytes ≤ 140737488355328) (hbase : base ≤ w.heap.size) (H : Nat) (hH : w.heap.size = H)
    (hK : ∀ g cap' w', Own k e w' base (.slice (some ⟨g, 0, none⟩) (n + m) cap') (n + m) (cat f n h) → w.grownBy w' (Value.ownBlock (.slice ao n cap)) → (g = H ∨ ao = some ⟨g, 0, none⟩) → K (a.put o.dst (.slice (some ⟨g, 0, none⟩) (n + m) cap')) w') : if Region.wanted o (yielded ops a.tmps) = true then Oper.wp P o a w K Q else E := by
  subst hH
  obtain ⟨i, hi, hz0, hz1, hz2⟩ := info_parts h2
  subst hz2
  have hl : (lst k h m).length = m * 1 := by rw [lst_length, Nat.mul_one]
  have hnews : ∀ j u, (lst k h m)[j]? = some u → w.cell? ((⟨b, ob, none⟩ : Addr).add j) = some u := by
    intro j u hu
    obtain ⟨hj, rfl⟩ := lst_getE hu
    have := hr.cell hj
    rw [addr_add]; exact this
  obtain ⟨v', w', hrun, h1', h2', h3'⟩ := run_append_own (P := P) w base t o.type e i (.int k 0) 1 i.bytes ht hi hz0 hz1 rfl rfl (by decide) (.slice ao n cap) n (lst k f n) hown ⟨b, ob, none⟩ m c (lst k h m) hl hnews (lst_one k h m) h63 hbytes hbase
  have hw : ∃ g cap', v' = .slice (some ⟨g, 0, none⟩) (n + m) cap' ∧ (g = w.heap.size ∨ ao = some ⟨g, 0, none⟩) := by
    have hlz : (lst k h m).length = m * i.size := by rw [hz1]; exact hl
    have hsm : n + m ≤ 9223372036854775807 := by unfold maxLen at h63; omega
    rcases hown.2 with ⟨hv, rfl⟩ | ⟨g, cap2, cur, hv, hbg, hg, hnc, hcm, hcs, htake⟩
    · cases hv
      have e1 := run_append_nil (P := P) w t o.type e i (.int k 0) ht hi hz0 ⟨b, ob, none⟩ m c (lst k h m) hlz hnews hm0 (by omega) (by rw [Nat.zero_add] at hbytes; omega)
      rw [e1] at hrun
      injection hrun with e2 e3
      exact ⟨_, _, by rw [← e2, Nat.zero_add], .inl rfl⟩
    · cases hv
      by_cases hroom : n + m ≤ cap
      · have e1 := run_append_room (P := P) w t o.type e i ht hi g n cap cur hg ⟨b, ob, none⟩ m c (lst k h m) hlz hnews (lst_one k h m) hroom (by rw [lst_length, hcs, hz1]; omega)
        rw [e1] at hrun
        injection hrun with e2 e3
        exact ⟨_, _, e2.symm, .inr rfl⟩
      · have holds : ∀ j u, (lst k f n)[j]? = some u → w.cell? ((⟨g, 0, none⟩ : Addr).add j) = some u := World.ownsRow.cells hown (g := g) rfl
        have e1 := run_append_grow (P := P) w t o.type e i (.int k 0) ht hi hz0 ⟨g, 0, none⟩ n cap (lst k f n) (by rw [lst_length, hz1]; omega) holds ⟨b, ob, none⟩ m c (lst k h m) hlz hnews (by omega) (by omega) (growslice_fits (by omega) hbytes)
        rw [e1] at hrun
        injection hrun with e2 e3
        exact ⟨_, _, e2.symm, .inl rfl⟩
  obtain ⟨g, cap', rfl, hg⟩ := hw
  rw [lst_cat] at h1'
  have hwt : Region.wanted o (yielded ops a.tmps) = true := by simp [Region.wanted, hgd]
  rw [if_pos hwt]
  unfold Oper.wp execOp
  simp only [ho, resolve, invoke, builtin, Sem.run_bind, Sem.run_pure, Result.andThen_ok, List.map_toArray, List.map_cons, List.map_nil, hs, hx, hrun]
  exact hK g cap' w' h1' h2' hg

theorem kOb {w w' : World} {base n : Nat} {v : Value} {f : Nat → Int} (hb : Below w.heap.size w w') (h : Own .u64 28 w base v n f) : Own .u64 28 w' base v n f := h.below hb
theorem kOa {w : World} {base n : Nat} {v : Value} {f : Nat → Int} {o : Obj} (h : Own .u64 28 w base v n f) : Own .u64 28 (w.alloc o) base v n f := Own.alloc h o
theorem kOd {w : World} {base n : Nat} {v : Value} {f : Nat → Int} (h : Own .u64 28 w base v n f) : Own .u64 28 w.drew base v n f := h
theorem kOg {w w' : World} {base n c g : Nat} {f : Nat → Int} {tb : Option Addr} {m tcb : Nat} (hg : w.grownBy w' (Value.ownBlock (.slice tb m tcb))) (hne : ∀ a, tb = some a → a.block ≠ g) (h : Own .u64 28 w base (.slice (some ⟨g, 0, none⟩) n c) n f) : Own .u64 28 w' base (.slice (some ⟨g, 0, none⟩) n c) n f := by
  refine Own.of h (fun a ha => ?_)
  cases ha
  obtain ⟨g', e1, hl⟩ := own_at h
  cases e1
  refine hg.block _ hl (fun e2 => ?_)
  cases tb with
  | none => cases e2
  | some a => exact hne a rfl (by simpa [Value.ownBlock] using e2.symm)
theorem kRg {w w' : World} {g n : Nat} {f : Nat → Int} {tb : Option Addr} {m tcb : Nat} (hg : w.grownBy w' (Value.ownBlock (.slice tb m tcb))) (hne : ∀ a, tb = some a → a.block ≠ g) (h : Rd .u64 w (some ⟨g, 0, none⟩) n f) : Rd .u64 w' (some ⟨g, 0, none⟩) n f := fun j hj => by
  obtain ⟨b, o, e, hc⟩ := h j hj
  cases e
  refine ⟨g, 0, rfl, hg.cell hc (fun e2 => ?_)⟩
  cases tb with
  | none => cases e2
  | some a => exact hne a rfl (by simpa [Value.ownBlock] using e2.symm)
theorem rd_newE {w : World} {B : Nat} {e : TypeId} {x : Int} (h : B = w.heap.size) : Rd .u64 (w.alloc (.cells #[.int .u64 x] e)) (some ⟨B, 0, none⟩) 1 (fun _ => x) := by subst h; exact rd_new1 w e x
theorem szb {w2 W : World} (h : Below w2.heap.size w2 W) : w2.heap.size ≤ W.heap.size := h.size
theorem below_app {w2 w w' : World} {x : Option Addr} {n c : Nat} {f : Nat → Int} (hb : Below w2.heap.size w2 w) (ho : Own .u64 28 w w2.heap.size (.slice x n c) n f) (hg : w.grownBy w' (Value.ownBlock (.slice x n c))) : Below w2.heap.size w2 w' := hb.grown hg hb.size (fun k hk => Own.ge ho k hk)

theorem KP1.below {E pos O N s1 s2 w5 w w' g1 i o one L} (h : KP1 E pos O N s1 s2 w5 w g1 i o one L) (hb : Below w.heap.size w w') : KP1 E pos O N s1 s2 w5 w' g1 i o one L :=
  ⟨h.tur.below hb, h.fam.of (hb.block _ h.fam.lt), fun j hj => Own.below (h.own j hj) hb, h.old, h.new, h.dis, h.loc, h.gs, h.inj⟩
theorem KP2.below {E pos O N s2 s3 w6 w w' g2 i two} (h : KP2 E pos O N s2 s3 w6 w g2 i two) (hb : Below w.heap.size w w') : KP2 E pos O N s2 s3 w6 w' g2 i two :=
  ⟨h.tur.below hb, (by obtain ⟨M, h1, h2⟩ := h.fam; exact ⟨M, h1.of (hb.block _ h1.lt), h2⟩), fun j h1 h2 => Own.below (h.own j h1 h2) hb, h.dis, h.loc, h.gs, h.inj⟩
theorem posW_eq (i : Nat) : posW i = i * 2 + 1 := by unfold posW; omega
theorem sp_mkW {i n1 cn gn : Nat} {f2 : Nat → Int} (hle : n1 ≤ 2000) (h0 : 0 < n1 → f2 0 = 100 * (i : Int)) : Sp i ⟨some ⟨gn, 0, none⟩, n1 + 1, cn, cat f2 n1 (fun _ => 9000 + (i : Int))⟩ := by
  refine ⟨Nat.succ_pos _, ?_, ?_, ?_⟩
  · simp; omega
  · simp [cat]
  · intro h1
    have h2 : 1 < n1 + 1 := h1
    have h3 : cat f2 n1 (fun _ => 9000 + (i : Int)) 0 = f2 0 := cat_in (by omega)
    simp only [h3]; exact h0 (by omega)
theorem bx_two (w : World) (s : Bool) (x : Option Addr) (n c : Nat) (t : Bool) (y : Option Addr) (m d : Nat) (T : TypeId) : Below w.heap.size w ((w.alloc (.cells #[.bool s, .slice x n c] T)).alloc (.cells #[.bool t, .slice y m d] T)).drew ∧ Bx ((w.alloc (.cells #[.bool s, .slice x n c] T)).alloc (.cells #[.bool t, .slice y m d] T)).drew w.heap.size s x n c ∧ Bx ((w.alloc (.cells #[.bool s, .slice x n c] T)).alloc (.cells #[.bool t, .slice y m d] T)).drew (w.heap.size + 1) t y m d := by
  refine ⟨Below.drew (below_alloc (below_alloc (Below.refl _ w) _) _), ?_, ?_⟩
  · exact (bx_new (Below.refl _ (w.alloc (.cells #[.bool s, .slice x n c] T)))).alloc _
  · have := bx_new (Below.refl _ ((w.alloc (.cells #[.bool s, .slice x n c] T)).alloc (.cells #[.bool t, .slice y m d] T)))
    rw [size_alloc1] at this
    exact this
/-- What lies ahead of the answers. -/
structure In7 (w : World) (B : Nat) (sa : Bool) (ao : Option Addr) (n ca : Nat) (f : Nat → Int) (sb : Bool) (bo : Option Addr) (m cb : Nat) (g : Nat → Int) (ga cA gb cB b7 b8 : Nat) : Prop where
  ra : Rd .u64 w ao n f
  rb : Rd .u64 w bo m g
  ba : Bx w B sa ao n ca
  bb : Bx w (B + 1) sb bo m cb
  xa : Own .u64 28 w 0 (.slice (some ⟨ga, 0, none⟩) (n + 1) cA) (n + 1) (cat f n (fun _ => 71))
  xb : Own .u64 28 w 0 (.slice (some ⟨gb, 0, none⟩) (m + 1) cB) (m + 1) (cat g m (fun _ => 72))
  bx : Bx w b7 sa (some ⟨ga, 0, none⟩) n cA
  bz : Bx w b8 sb (some ⟨gb, 0, none⟩) m cB
theorem In7.below {w w' B sa ao n ca f sb bo m cb g ga cA gb cB b7 b8} (I : In7 w B sa ao n ca f sb bo m cb g ga cA gb cB b7 b8) (hb : Below w.heap.size w w') : In7 w' B sa ao n ca f sb bo m cb g ga cA gb cB b7 b8 :=
  ⟨I.ra.below hb (Nat.le_refl _), I.rb.below hb (Nat.le_refl _), I.ba.below hb, I.bb.below hb, Own.below I.xa hb, Own.below I.xb hb, I.bx.below hb, I.bz.below hb⟩
theorem cat_rd1 {w : World} {g n c : Nat} {f : Nat → Int} {x : Int} (h : Own .u64 28 w 0 (.slice (some ⟨g, 0, none⟩) (n + 1) c) (n + 1) (cat f n (fun _ => x))) :
    Rd .u64 w (some ⟨g, 0, none⟩) n f ∧ w.cell? ⟨g, n, none⟩ = some (.int .u64 x) ∧ n + 1 ≤ c ∧ c ≤ 9223372036854775807 := by
  have hr := (Own.slice h).2.2.2.1
  refine ⟨(hr.take (m := n) (by omega)).congr (fun j hj => cat_in hj), ?_, (Own.slice h).1, (Own.slice h).2.1⟩
  have := hr.cell (j := n) (by omega)
  rw [Nat.zero_add, cat_out (Nat.le_refl _)] at this
  exact this
/-- A row of whole numbers that stands. -/
structure StW (w : World) (g : Nat) (S : Nat → Bool) (L : Nat → Ls) : Prop where
  fam : FamP 24 w g 6 posW (othW S) L
  own : ∀ j, j < 6 → Lo .u64 28 w (L j)
theorem AnsW.st {C w w' g S L V} (h : AnsW C w w' g S L V) : StW w' g S L := ⟨h.fam, h.own⟩
theorem StW.below {w w' g S L} (h : StW w g S L) (hb : Below w.heap.size w w') : StW w' g S L := ⟨h.fam.of (hb.block g h.fam.lt), fun j hj => Own.below (h.own j hj) hb⟩
theorem StW.turned {lo hi w w' g S L} (h : StW w g S L) (ht : Turned lo hi w w') (hg : g < lo ∨ hi ≤ g) (hl : ∀ j, j < 6 → ∀ a, (L j).p = some a → a.block < lo ∨ hi ≤ a.block) : StW w' g S L :=
  ⟨h.fam.of (ht.block g h.fam.lt hg), fun j hj => (h.own j hj).of (fun a ha => ht.block _ ((h.own j hj).lt a ha) (hl j hj a ha))⟩
theorem fam_cells {w : World} {g : Nat} {S : Nat → Bool} {L : Nat → Ls} (h : FamP 24 w g 6 posW (othW S) L) {i : Nat} (hi : i < 6) : w.cell? ⟨g, i * 2, none⟩ = some (.bool (S i)) ∧ w.cell? ⟨g, i * 2 + 1, none⟩ = some (.slice (L i).p (L i).n (L i).c) := by
  constructor
  · have := h.other (t := i * 2) (fun j _ e => by unfold posW at e; omega)
    rw [this]
    unfold othW
    rw [if_pos (by omega), show i * 2 / 2 = i by omega]
  · have := h.cell hi
    unfold posW at this
    rw [show i * 2 + 1 = 2 * i + 1 by omega]; exact this
/-- What is known when all answers lie there. -/
structure All7 (w4 w6 w7 w8 : World) (B : Nat) (sa : Bool) (ao : Option Addr) (n ca : Nat) (f : Nat → Int) (sb : Bool) (bo : Option Addr) (m cb : Nat) (g : Nat → Int) (ga cA gb cB b7 b8 g1 g2 g3 : Nat) (S1 S2 S3 : Nat → Bool) (one two want : Nat → Ls) (V : Nat → Int) : Prop where
  in0 : In7 w4 B sa ao n ca f sb bo m cb g ga cA gb cB b7 b8
  b48 : Below w4.heap.size w4 w8
  s12 : w4.heap.size ≤ w6.heap.size
  s23 : w6.heap.size ≤ w7.heap.size
  s34 : w7.heap.size ≤ w8.heap.size
  st1 : StW w8 g1 S1 one
  st2 : StW w8 g2 S2 two
  st3 : StW w8 g3 S3 want
  d1 : ∀ j k, j < 6 → k < 6 → j ≠ k → Apart (one j).p (one k).p
  d2 : ∀ j k, j < 6 → k < 6 → j ≠ k → Apart (two j).p (two k).p
  l1 : ∀ j, j < 6 → ∀ a, (one j).p = some a → a.block ≠ g1 ∧ (w4.heap.size ≤ a.block ∧ a.block < w6.heap.size)
  l2 : ∀ j, j < 6 → ∀ a, (two j).p = some a → a.block ≠ g2 ∧ (w6.heap.size ≤ a.block ∧ a.block < w7.heap.size)
  l3 : ∀ j, j < 6 → ∀ a, (want j).p = some a → w7.heap.size ≤ a.block
  g1s : w4.heap.size ≤ g1 ∧ g1 < w6.heap.size
  g2s : w6.heap.size ≤ g2 ∧ g2 < w7.heap.size
  g3s : w7.heap.size ≤ g3
  form : ∀ j, j < 6 → (Lm (one j).f (one j).n ∧ wfB (S1 j) (one j).f (one j).n = true ∧ (one j).n ≤ 2000 ∧ wv (S1 j) (one j).f (one j).n = V j) ∧ (Lm (two j).f (two j).n ∧ wfB (S2 j) (two j).f (two j).n = true ∧ (two j).n ≤ 2000 ∧ wv (S2 j) (two j).f (two j).n = V j) ∧ (Lm (want j).f (want j).n ∧ wfB (S3 j) (want j).f (want j).n = true ∧ (want j).n ≤ 2000 ∧ wv (S3 j) (want j).f (want j).n = V j)
theorem all7_mk {w4 w6 w7 wt w8 : World} {B sa ao n ca f sb bo m cb g ga cA gb cB b7 b8 g1 g2 g3 S1 S2 S3 one two want V} (I : In7 w4 B sa ao n ca f sb bo m cb g ga cA gb cB b7 b8)
    (a1 : AnsW 2000 w4 w6 g1 S1 one V) (a2 : AnsW 2000 w6 w7 g2 S2 two V) (ht : Below w7.heap.size w7 wt) (a3 : AnsW 2000 wt w8 g3 S3 want V) : All7 w4 w6 w7 w8 B sa ao n ca f sb bo m cb g ga cA gb cB b7 b8 g1 g2 g3 S1 S2 S3 one two want V := by
  have c7 : Below w7.heap.size w7 w8 := ht.trans (a3.bel.mono ht.size)
  have c6 : Below w6.heap.size w6 w8 := a2.bel.trans (c7.mono a2.bel.size)
  have c4 : Below w4.heap.size w4 w8 := a1.bel.trans (c6.mono a1.bel.size)
  exact ⟨I, c4, a1.bel.size, a2.bel.size, c7.size, a1.st.below c6, a2.st.below c7, a3.st, a1.dis, a2.dis,
    fun j hj a ha => ⟨(a1.loc j hj a ha).1, (a1.loc j hj a ha).2, (a1.own j hj).lt a ha⟩, fun j hj a ha => ⟨(a2.loc j hj a ha).1, (a2.loc j hj a ha).2, (a2.own j hj).lt a ha⟩,
    fun j hj a ha => by have := (a3.loc j hj a ha).2; have := ht.size; omega, ⟨a1.gs, a1.fam.lt⟩, ⟨a2.gs, a2.fam.lt⟩, Nat.le_trans ht.size a3.gs,
    fun j hj => ⟨⟨a1.lm j hj, a1.wf j hj, a1.le j hj, a1.val j hj⟩, ⟨a2.lm j hj, a2.wf j hj, a2.le j hj, a2.val j hj⟩, ⟨a3.lm j hj, a3.wf j hj, a3.le j hj, a3.val j hj⟩⟩⟩
section
variable {w4 w6 w7 w8 w10 w : World} {B : Nat} {sa : Bool} {ao : Option Addr} {n ca : Nat} {f : Nat → Int} {sb : Bool} {bo : Option Addr} {m cb : Nat} {g : Nat → Int} {ga cA gb cB b7 b8 g1 g2 g3 : Nat} {S1 S2 S3 : Nat → Bool} {one two want L : Nat → Ls} {V : Nat → Int}
theorem All7.k1 (A : All7 w4 w6 w7 w8 B sa ao n ca f sb bo m cb g ga cA gb cB b7 b8 g1 g2 g3 S1 S2 S3 one two want V) : KP1 24 posW (othW S1) 6 w4.heap.size w6.heap.size w8 w8 g1 0 0 one one :=
  ⟨Turned.refl _ _ _, A.st1.fam, A.st1.own, fun _ _ _ => rfl, fun j hj => by omega, A.d1, fun j hj a ha => ⟨(A.l1 j hj a ha).1, .inl (A.l1 j hj a ha).2⟩, A.g1s, posW_inj⟩
/-- In the first round the other rows stand. -/
theorem All7.t1 (A : All7 w4 w6 w7 w8 B sa ao n ca f sb bo m cb g ga cA gb cB b7 b8 g1 g2 g3 S1 S2 S3 one two want V) (ht : Turned w4.heap.size w6.heap.size w8 w) : StW w g2 S2 two ∧ StW w g3 S3 want ∧ In7 w B sa ao n ca f sb bo m cb g ga cA gb cB b7 b8 := by
  have h1 := A.s12; have h2 := A.s23; have h3 := A.s34; have hg2 := A.g2s; have hg3 := A.g3s
  exact ⟨A.st2.turned ht (.inr hg2.1) (fun j hj a ha => .inr (A.l2 j hj a ha).2.1), A.st3.turned ht (.inr (by omega)) (fun j hj a ha => .inr (by have := A.l3 j hj a ha; omega)), A.in0.below (A.b48.trans (ht.bel (Nat.le_refl _) (by omega)))⟩
theorem All7.k2 (A : All7 w4 w6 w7 w8 B sa ao n ca f sb bo m cb g ga cA gb cB b7 b8 g1 g2 g3 S1 S2 S3 one two want V) (ht : Turned w4.heap.size w6.heap.size w8 w) : KP2 24 posW (othW S2) 6 w6.heap.size w7.heap.size w w g2 0 two := by
  obtain ⟨s2, s3, i4⟩ := A.t1 ht
  exact ⟨Turned.refl _ _ _, ⟨two, s2.fam, fun _ _ _ => rfl⟩, fun j _ hj => s2.own j hj, A.d2, A.l2, A.g2s, posW_inj⟩
/-- In the second round the third row and what was spoiled stand. -/
theorem All7.t2 (A : All7 w4 w6 w7 w8 B sa ao n ca f sb bo m cb g ga cA gb cB b7 b8 g1 g2 g3 S1 S2 S3 one two want V) (k1 : KP1 24 posW (othW S1) 6 w4.heap.size w6.heap.size w8 w10 g1 6 6 one L) (ht : Turned w6.heap.size w7.heap.size w10 w) :
    StW w g1 S1 L ∧ StW w g3 S3 want ∧ In7 w B sa ao n ca f sb bo m cb g ga cA gb cB b7 b8 ∧ Below w4.heap.size w8 w := by
  have h1 := A.s12; have h2 := A.s23; have h3 := A.s34; have hg2 := A.g2s; have hg3 := A.g3s; have hg1 := A.g1s
  obtain ⟨s2, s3, i4⟩ := A.t1 k1.tur
  have h5 := k1.tur.size
  refine ⟨StW.turned ⟨k1.fam, k1.own⟩ ht (.inl hg1.2) (fun j hj a ha => ?_), s3.turned ht (.inr hg3) (fun j hj a ha => .inr (A.l3 j hj a ha)), A.in0.below (A.b48.trans ((k1.tur.bel (Nat.le_refl _) (by omega)).trans (ht.bel h1 (by omega)))), (k1.tur.bel (Nat.le_refl _) (by omega)).trans (ht.bel h1 (by omega))⟩
  have := (k1.loc j hj a ha).2; omega
end
theorem wSame_self (s : Bool) (ao bo : Option Addr) (n ca cb : Nat) (f : Nat → Int) (w : World) (hn : n ≤ 140737488355328) (hr : Rd .u64 w ao n f) (hs : Rd .u64 w bo n f) :
    Calls Tryz.prog 11 #[.agg #[.bool s, .slice ao n ca], .agg #[.bool s, .slice bo n cb]] w fun e w' => e = .returned (.bool true) ∧ Below w.heap.size w w' := by
  refine (wSame_c s s ao bo n n ca cb f f w hn hn hr hs).mono ?_
  rintro e w' ⟨b, rfl, hb, hc⟩
  have : b = true := hc.2 ⟨rfl, rfl, fun _ _ => rfl⟩
  subst this
  exact ⟨rfl, hb⟩

set_option maxRecDepth 100000 in
set_option maxHeartbeats 8000000 in
theorem wholeKeeps_c (sa : Bool) (ao : Option Addr) (n ca : Nat) (f : Nat → Int) (sb : Bool) (bo : Option Addr) (m cb : Nat) (g : Nat → Int) (w : World) (hn : n ≤ ca ∧ ca ≤ 9223372036854775807) (hr : Rd .u64 w ao n f) (hf : Lm f n) (na : ao = none → n = 0 ∧ ca = 0) (hm : m ≤ cb ∧ cb ≤ 9223372036854775807) (hs : Rd .u64 w bo m g) (hg : Lm g m) (nb : bo = none → m = 0 ∧ cb = 0) (htab : Tab w) :
    Calls Tryz.prog 3 #[.agg #[.bool sa, .slice ao n ca], .agg #[.bool sb, .slice bo m cb]] w fun e w' => e = .returned (.bool true) ∧ Below w.heap.size w w' := by
  have HR := hid hr; have HS := hid hs; have HF := hid hf; have HG := hid hg; have NA := hid na; have NB := hid nb; have HTab := hid htab
  clear hr hs hf hg na nb htab
  go_enter Tryz.func3, Tryz.ntmps3
  go_wp2_with fail
  refine (wAwake_c _ (HTab.out.below (below_alloc (below_alloc (Below.refl w.heap.size w) _) _) HTab.out.lt)).mono ?_
  rintro e w1 ⟨rfl, hb⟩
  obtain ⟨⟨hz, x0, x1, y0, y1⟩, zf, hw⟩ := boxes2 hb
  have BA1 : Hid (Bx w1 w.heap.size sa ao n ca) := ⟨by omega, x0, x1⟩
  have BB1 : Hid (Bx w1 (w.heap.size + 1) sb bo m cb) := ⟨by omega, y0, y1⟩
  have HW1 := hid hw
  clear hb hw zf
  go_wp2_with fail
  refine (wLight_c sa sb ao bo n m ca cb _ (by omega) (by omega)).mono ?_
  rintro e w2 ⟨rfl, hb⟩
  have BA2 := hid (BA1.out.below hb); have BB2 := hid (BB1.out.below hb); have HW2 := hid (HW1.out.trans (hb.mono HW1.out.size))
  clear hb BA1 BB1 HW1 x0 x1 y0 y1 hz
  cases hlg : lgt n m
  · go_wp2
    go_ret
    exact ⟨rfl, HW2.out⟩
  have hn60 : n ≤ 60 := by simp [lgt] at hlg; exact hlg.1
  have hm60 : m ≤ 60 := by simp [lgt] at hlg; exact hlg.2
  clear hlg
  obtain ⟨za, a0, a1⟩ := BA2.out
  obtain ⟨zb, b0, b1⟩ := BB2.out
  have CT1 : Hid (∀ W, Below w2.heap.size w2 W → Calls Tryz.prog 9 #[.agg #[.bool sa, .slice ao n ca]] W fun e w' => ∃ x c, e = .returned (.agg #[.bool sa, .slice x n c]) ∧ Below W.heap.size W w' ∧ Hid (Own .u64 28 w' w2.heap.size (.slice x n c) n f) ∧ Hid (∀ a, x = some a → W.heap.size ≤ a.block ∧ a.block < w'.heap.size)) := fun W hW =>
    (wTwin_c sa ao n ca f W (by omega) (HR.out.below (HW2.out.trans (hW.mono HW2.out.size)) (Nat.le_refl _)) NA.out).mono (fun e w' ⟨x, c, h1, h2, h3⟩ => ⟨x, c, h1, h2, Own.base h3 hW.size, fun a ha => h3.slice.2.2.2.2 a ha⟩)
  have CT2 : Hid (∀ W, Below w2.heap.size w2 W → Calls Tryz.prog 9 #[.agg #[.bool sb, .slice bo m cb]] W fun e w' => ∃ x c, e = .returned (.agg #[.bool sb, .slice x m c]) ∧ Below W.heap.size W w' ∧ Hid (Own .u64 28 w' w2.heap.size (.slice x m c) m g) ∧ Hid (∀ a, x = some a → W.heap.size ≤ a.block ∧ a.block < w'.heap.size)) := fun W hW =>
    (wTwin_c sb bo m cb g W (by omega) (HS.out.below (HW2.out.trans (hW.mono HW2.out.size)) (Nat.le_refl _)) NB.out).mono (fun e w' ⟨x, c, h1, h2, h3⟩ => ⟨x, c, h1, h2, Own.base h3 hW.size, fun a ha => h3.slice.2.2.2.2 a ha⟩)
  have hfd : ∀ (W : World) (r : Bool) (x : Option Addr) (k c : Nat), (Instr.field 24 (.agg #[.bool r, .slice x k c]) 1).run Tryz.prog W = .ok (.slice x k c) W := by intros; kernel_rfl
  go_upto_region 5 with fail
  go_cut [5, 6] from 21 to 30 (fun u v wx => ∃ (wy : World) (ga cA gb cB : Nat), wy = wx ∧ u = .slice (some ⟨ga, 0, none⟩) (n + 1) cA ∧ v = .slice (some ⟨gb, 0, none⟩) (m + 1) cB ∧ Below w2.heap.size w2 wy ∧ Hid (Own .u64 28 wy w2.heap.size (.slice (some ⟨ga, 0, none⟩) (n + 1) cA) (n + 1) (cat f n (fun _ => 71))) ∧ Hid (Own .u64 28 wy w2.heap.size (.slice (some ⟨gb, 0, none⟩) (m + 1) cB) (m + 1) (cat g m (fun _ => 72))))
  case first =>
    go_region_held3 (fun w' => w'.cell? ⟨w.heap.size, 0, none⟩ = some (.bool sa) ∧ w'.cell? ⟨w.heap.size, 1, none⟩ = some (.slice ao n ca) ∧ w'.cell? ⟨w.heap.size + 1, 0, none⟩ = some (.bool sb) ∧ w'.cell? ⟨w.heap.size + 1, 1, none⟩ = some (.slice bo m cb))
      (refine ⟨?_, ?_, ?_, ?_⟩ <;> repeat (with_reducible first | assumption | refine kCd ?_ | refine kCa ?_ | refine kCb (by assumption) ?_))
      (first
        | (go_at_call 9; with_reducible refine (CT1.out _ (by repeat (with_reducible first | assumption | exact Below.refl _ _ | refine Below.drew ?_ | refine kBa ?_ | refine kBb (by assumption) ?_))).mono ?_; rintro e w3 ⟨xa, cxa, rfl, hb3, HOa, hla⟩)
        | (go_at_call 9; with_reducible refine (CT2.out _ (by repeat (with_reducible first | assumption | exact Below.refl _ _ | refine Below.drew ?_ | refine kBa ?_ | refine kBb (by assumption) ?_))).mono ?_; rintro e w6 ⟨xb, cxb, rfl, hb6, HOb, hlb⟩)
        | (refine step_append_where .u64 _ rfl (.tmp 23) (.tmp 24) 22 rfl w2.heap.size 28 8 Tryz.underlying22 Tryz.infoU64 xa n cxa f rfl ?o1 _ 0 1 1 (fun _ => 71) rfl ?r1 ?p0 ?p1 ?p2 ?p3 _ rfl ?_; (case o1 => (repeat (with_reducible first | exact HOa.out | refine kOd ?_ | refine kOa ?_ | refine kOb (by assumption) ?_))); (case r1 => (repeat (with_reducible first | (refine rd_newE ?_; (simp <;> fail)) | refine kRd ?_ | refine kRa ?_ | refine kRg (by assumption) (fun a ha => by have := hla.out a ha; (try simp at this); (first | omega | (simp; omega))) ?_ | refine kRb (by assumption) ?_))); (case p0 => omega); (case p1 => (unfold maxLen; omega)); (case p2 => omega); (case p3 => (refine szb ?_; repeat (with_reducible first | assumption | exact Below.refl _ _ | refine Below.drew ?_ | refine kBa ?_ | refine kBb (by assumption) ?_))); intro ga cA w5 hxa hgr5 hwa; have hb5 : Below w2.heap.size w2 w5 := (by refine below_app (f := f) ?_ ?_ hgr5; (repeat (with_reducible first | assumption | exact Below.refl _ _ | refine Below.drew ?_ | refine kBa ?_ | refine kBb (by assumption) ?_)); (repeat (with_reducible first | exact HOa.out | refine kOd ?_ | refine kOa ?_ | refine kOb (by assumption) ?_))); have HXa := hid hxa; have HXal := own_at hxa; clear hxa)
        | (refine step_append_where .u64 _ rfl (.tmp 28) (.tmp 29) 22 rfl w2.heap.size 28 8 Tryz.underlying22 Tryz.infoU64 xb m cxb g rfl ?o1 _ 0 1 1 (fun _ => 72) rfl ?r1 ?p0 ?p1 ?p2 ?p3 _ rfl ?_; (case o1 => (repeat (with_reducible first | exact HOb.out | refine kOd ?_ | refine kOa ?_ | refine kOb (by assumption) ?_))); (case r1 => (repeat (with_reducible first | (refine rd_newE ?_; (simp <;> fail)) | refine kRd ?_ | refine kRa ?_ | refine kRg (by assumption) (fun a ha => by have := hla.out a ha; (try simp at this); (first | omega | (simp; omega))) ?_ | refine kRb (by assumption) ?_))); (case p0 => omega); (case p1 => (unfold maxLen; omega)); (case p2 => omega); (case p3 => (refine szb ?_; repeat (with_reducible first | assumption | exact Below.refl _ _ | refine Below.drew ?_ | refine kBa ?_ | refine kBb (by assumption) ?_))); intro gb cB w8 hxb hgr8 hwb; have hb8 : Below w2.heap.size w2 w8 := (by refine below_app (f := g) ?_ ?_ hgr8; (repeat (with_reducible first | assumption | exact Below.refl _ _ | refine Below.drew ?_ | refine kBa ?_ | refine kBb (by assumption) ?_)); (repeat (with_reducible first | exact HOb.out | refine kOd ?_ | refine kOa ?_ | refine kOb (by assumption) ?_))); have HXb := hid hxb; have HXbl := own_at hxb; clear hxb))
    all_goals
      go_wp2_with fail
      go_meet
      refine ⟨_, ga, cA, gb, cB, rfl, rfl, rfl, hb8, ?_, HXb⟩
      show Own _ _ _ _ _ _ _
      repeat (with_reducible first | exact HXa.out | refine kOd ?_ | refine kOa ?_ | refine kOg (by assumption) (fun a ha => by have := hlb.out a ha; obtain ⟨g9, e9, l9⟩ := HXal; cases e9; (try simp at this); (try simp at l9); (first | omega | (simp; omega))) ?_ | refine kOb (by assumption) ?_)
  case rest =>
    clear CT1 CT2 hfd
    obtain ⟨w3, ga, cA, gb, cB, rfl, rfl, rfl, hb3, HXa, HXb⟩ := hcut
    have HW3 := hid (HW2.out.trans (hb3.mono HW2.out.size))
    have BA3 := hid (BA2.out.below hb3); have BB3 := hid (BB2.out.below hb3)
    clear a0 a1 b0 b1 za zb BA2 BB2 HW2 hb3
    obtain ⟨za, a0, a1⟩ := BA3.out
    obtain ⟨zb, b0, b1⟩ := BB3.out
    have hcA := (Own.slice HXa.out).1; have hcB := (Own.slice HXb.out).1
    have hcA2 := (Own.slice HXa.out).2.1; have hcB2 := (Own.slice HXb.out).2.1
    have i1 : ((n : Nat) : Int) ≤ ((cA : Nat) : Int) := by omega
    have i2 : ((m : Nat) : Int) ≤ ((cB : Nat) : Int) := by omega
    have i3 : ¬ (cA = n) := by omega
    have i4 : ¬ (cB = m) := by omega
    go_upto_region 6 with fail
    go_cut [7, 8] from 31 to 46 (fun u v wx => ∃ (wy : World) (b7 b8 : Nat), wy = wx ∧ u = .pointer (some ⟨b7, 0, none⟩) ∧ v = .pointer (some ⟨b8, 0, none⟩) ∧ Below w3.heap.size w3 wy ∧ Hid (Bx wy b7 sa (some ⟨ga, 0, none⟩) n cA) ∧ Hid (Bx wy b8 sb (some ⟨gb, 0, none⟩) m cB))
    case first =>
      go_region_held3 (fun w' => w'.cell? ⟨w.heap.size, 0, none⟩ = some (.bool sa) ∧ w'.cell? ⟨w.heap.size, 1, none⟩ = some (.slice ao n ca) ∧ w'.cell? ⟨w.heap.size + 1, 0, none⟩ = some (.bool sb) ∧ w'.cell? ⟨w.heap.size + 1, 1, none⟩ = some (.slice bo m cb))
        (refine ⟨?_, ?_, ?_, ?_⟩ <;> repeat (with_reducible first | assumption | refine kCd ?_ | refine kCa ?_ | refine kCs (by simp only [ne_eq]; omega) ?_ | refine kCb (by assumption) ?_))
        (fail)
      · go_wp2_with fail
        go_meet
        have h2 := bx_two w3 sa (some ⟨ga, 0, none⟩) n cA sb (some ⟨gb, 0, none⟩) m cB 24
        exact ⟨_, _, _, rfl, rfl, rfl, h2.1, h2.2.1, h2.2.2⟩
      · go_wp2_with fail
        go_meet
        have h2 := bx_two w3 sb (some ⟨gb, 0, none⟩) m cB sa (some ⟨ga, 0, none⟩) n cA 24
        exact ⟨_, _, _, rfl, rfl, rfl, h2.1, h2.2.2, h2.2.1⟩
    case rest =>
      obtain ⟨w4, b7, b8, rfl, rfl, rfl, hb4, BX, BZ⟩ := hcut
      have HI : Hid (In7 w4 w.heap.size sa ao n ca f sb bo m cb g ga cA gb cB b7 b8) := ⟨HR.out.below (HW3.out.trans (hb4.mono HW3.out.size)) (Nat.le_refl _), HS.out.below (HW3.out.trans (hb4.mono HW3.out.size)) (Nat.le_refl _), BA3.out.below hb4, BB3.out.below hb4, Own.base (Own.below HXa.out hb4) (Nat.zero_le _), Own.base (Own.below HXb.out hb4) (Nat.zero_le _), BX.out, BZ.out⟩
      have HW4 := hid (HW3.out.trans (hb4.mono HW3.out.size))
      have HSz : Hid (w.heap.size ≤ w4.heap.size) := HW4.out.size
      clear hb4 BX BZ HXa HXb BA3 BB3 HW3 a0 a1 b0 b1 za zb i1 i2 i3 i4
      obtain ⟨z7, x0, x1⟩ := HI.out.bx
      obtain ⟨z8, y0, y1⟩ := HI.out.bz
      have CA1 : Hid (∀ W, Below w4.heap.size w4 W → Calls Tryz.prog 10 #[.agg #[.bool sa, .slice (some ⟨ga, 0, none⟩) n cA], .agg #[.bool sb, .slice (some ⟨gb, 0, none⟩) m cB]] W fun e w' => ∃ gq S L, e = .returned (.slice (some ⟨gq, 0, none⟩) 6 6) ∧ Below W.heap.size W w' ∧ Hid (AnsW 2000 W w' gq S L (wansV sa f n sb g m))) := fun W hW =>
        (wAnswers_c sa sb (some ⟨ga, 0, none⟩) (some ⟨gb, 0, none⟩) n m cA cB f g W hn60 hm60 (by omega) (by omega) (by omega) (by omega) (fun h => by cases h) (cat_rd1 (HI.out.below hW).xa).1 (cat_rd1 (HI.out.below hW).xb).1 HF.out HG.out).mono (fun e w' ⟨gq, S, L, h1, h2⟩ => ⟨gq, S, L, h1, h2.bel, h2⟩)
      go_upto_region 7 with fail
      go_cut [9, 10] from 47 to 52 (fun u v wx => ∃ (wy w5 w6 : World) (g1 : Nat) (S1 : Nat → Bool) (one : Nat → Ls) (g2 : Nat) (S2 : Nat → Bool) (two : Nat → Ls), wy = wx ∧ u = .slice (some ⟨g1, 0, none⟩) 6 6 ∧ v = .slice (some ⟨g2, 0, none⟩) 6 6 ∧ Hid (Below w4.heap.size w4 w5) ∧ Hid (AnsW 2000 w5 w6 g1 S1 one (wansV sa f n sb g m)) ∧ Hid (AnsW 2000 w6 wy g2 S2 two (wansV sa f n sb g m)))
      case first =>
        go_region_held3 (fun w' => w'.cell? ⟨b7, 0, none⟩ = some (.bool sa) ∧ w'.cell? ⟨b7, 1, none⟩ = some (.slice (some ⟨ga, 0, none⟩) n cA) ∧ w'.cell? ⟨b8, 0, none⟩ = some (.bool sb) ∧ w'.cell? ⟨b8, 1, none⟩ = some (.slice (some ⟨gb, 0, none⟩) m cB))
          (refine ⟨?_, ?_, ?_, ?_⟩ <;> repeat (with_reducible first | assumption | refine kCd ?_ | refine kCa ?_ | refine kCb (by assumption) ?_))
          (first
            | (have h9 := HA1.out; clear h9; go_at_call 10; with_reducible refine (CA1.out _ (by repeat (with_reducible first | assumption | exact Below.refl _ _ | refine Below.drew ?_ | refine kBa ?_ | refine kBb (by assumption) ?_))).mono ?_; rintro e w7 ⟨g2, S2, two, rfl, hb7, HA2⟩)
            | (go_at_call 10; with_reducible refine (CA1.out _ (by repeat (with_reducible first | assumption | exact Below.refl _ _ | refine Below.drew ?_ | refine kBa ?_ | refine kBb (by assumption) ?_))).mono ?_; rintro e w6 ⟨g1, S1, one, rfl, hb6, HA1⟩))
        all_goals
          go_wp2_with fail
          go_meet
          exact ⟨_, _, _, g1, S1, one, g2, S2, two, rfl, rfl, rfl, hid (by repeat (with_reducible first | assumption | exact Below.refl _ _ | refine Below.drew ?_ | refine kBa ?_ | refine kBb (by assumption) ?_)), HA1, HA2⟩
      case rest =>
        obtain ⟨w7, w5, w6, g1, S1, one, g2, S2, two, rfl, rfl, rfl, HB5, HA1, HA2⟩ := hcut
        clear CA1 x0 x1 y0 y1 z7 z8
        have I7 := hid (((HI.out.below HB5.out).below HA1.out.bel).below HA2.out.bel)
        obtain ⟨za, a0, a1⟩ := I7.out.ba
        obtain ⟨zb, b0, b1⟩ := I7.out.bb
        have CT1 : Hid (∀ W, Below w7.heap.size w7 W → Calls Tryz.prog 9 #[.agg #[.bool sa, .slice ao n ca]] W fun e w' => ∃ x c, e = .returned (.agg #[.bool sa, .slice x n c]) ∧ Below W.heap.size W w' ∧ Hid (Own .u64 28 w' 0 (.slice x n c) n f)) := fun W hW =>
          (wTwin_c sa ao n ca f W (by omega) (I7.out.below hW).ra NA.out).mono (fun e w' ⟨x, c, h1, h2, h3⟩ => ⟨x, c, h1, h2, Own.base h3 (Nat.zero_le _)⟩)
        have CT2 : Hid (∀ W, Below w7.heap.size w7 W → Calls Tryz.prog 9 #[.agg #[.bool sb, .slice bo m cb]] W fun e w' => ∃ x c, e = .returned (.agg #[.bool sb, .slice x m c]) ∧ Below W.heap.size W w' ∧ Hid (Own .u64 28 w' 0 (.slice x m c) m g)) := fun W hW =>
          (wTwin_c sb bo m cb g W (by omega) (I7.out.below hW).rb NB.out).mono (fun e w' ⟨x, c, h1, h2, h3⟩ => ⟨x, c, h1, h2, Own.base h3 (Nat.zero_le _)⟩)
        have CA3 : Hid (∀ (W : World) (x : Option Addr) (c : Nat) (y : Option Addr) (d : Nat), Own .u64 28 W 0 (.slice x n c) n f → Own .u64 28 W 0 (.slice y m d) m g → Calls Tryz.prog 10 #[.agg #[.bool sa, .slice x n c], .agg #[.bool sb, .slice y m d]] W fun e w' => ∃ gq S L, e = .returned (.slice (some ⟨gq, 0, none⟩) 6 6) ∧ Below W.heap.size W w' ∧ Hid (AnsW 2000 W w' gq S L (wansV sa f n sb g m))) := fun W x c y d h1 h2 =>
          (wAnswers_c sa sb x y n m c d f g W hn60 hm60 h1.slice.1 h2.slice.1 h1.slice.2.1 h2.slice.2.1 h1.slice.2.2.1 h1.slice.2.2.2.1 h2.slice.2.2.2.1 HF.out HG.out).mono (fun e w' ⟨gq, S, L, h1, h2⟩ => ⟨gq, S, L, h1, h2.bel, h2⟩)
        go_upto_region 8 with fail
        go_cut [11] from 53 to 57 (fun u wx => ∃ (wy wt : World) (g3 : Nat) (S3 : Nat → Bool) (want : Nat → Ls), wy = wx ∧ u = .slice (some ⟨g3, 0, none⟩) 6 6 ∧ Hid (Below w7.heap.size w7 wt) ∧ Hid (AnsW 2000 wt wy g3 S3 want (wansV sa f n sb g m)))
        case first =>
          go_region_held3 (fun w' => w'.cell? ⟨w.heap.size, 0, none⟩ = some (.bool sa) ∧ w'.cell? ⟨w.heap.size, 1, none⟩ = some (.slice ao n ca) ∧ w'.cell? ⟨w.heap.size + 1, 0, none⟩ = some (.bool sb) ∧ w'.cell? ⟨w.heap.size + 1, 1, none⟩ = some (.slice bo m cb))
            (refine ⟨?_, ?_, ?_, ?_⟩ <;> repeat (with_reducible first | assumption | refine kCd ?_ | refine kCa ?_ | refine kCb (by assumption) ?_))
            (first
              | (go_at_call 9; with_reducible refine (CT1.out _ (by repeat (with_reducible first | assumption | exact Below.refl _ _ | refine Below.drew ?_ | refine kBa ?_ | refine kBb (by assumption) ?_))).mono ?_; rintro e w9 ⟨xa, cxa, rfl, hb9, HOa⟩)
              | (go_at_call 9; with_reducible refine (CT2.out _ (by repeat (with_reducible first | assumption | exact Below.refl _ _ | refine Below.drew ?_ | refine kBa ?_ | refine kBb (by assumption) ?_))).mono ?_; rintro e w10 ⟨xb, cxb, rfl, hb10, HOb⟩)
              | (go_at_call 10; with_reducible refine (CA3.out _ xa cxa xb cxb (by repeat (with_reducible first | exact HOa.out | refine kOd ?_ | refine kOa ?_ | refine kOb (by assumption) ?_)) (by repeat (with_reducible first | exact HOb.out | refine kOd ?_ | refine kOa ?_ | refine kOb (by assumption) ?_))).mono ?_; rintro e w11 ⟨g3, S3, want, rfl, hb11, HA3⟩))
          all_goals
            go_wp2_with fail
            go_meet
            exact ⟨_, _, g3, S3, want, rfl, rfl, hid (by repeat (with_reducible first | assumption | exact Below.refl _ _ | refine Below.drew ?_ | refine kBa ?_ | refine kBb (by assumption) ?_)), HA3⟩
        case rest =>
          obtain ⟨w8, wt, g3, S3, want, rfl, rfl, HBt, HA3⟩ := hcut
          clear CT1 CT2 CA3 a0 a1 b0 b1 za zb I7
          have AA := hid (all7_mk (HI.out.below HB5.out) HA1.out HA2.out HBt.out HA3.out)
          have B8 : Hid (Below w.heap.size w w8) := HW4.out.trans ((HB5.out.trans (AA.out.b48.mono HB5.out.size)).mono HW4.out.size)
          have S5 : Hid (w.heap.size ≤ w5.heap.size) := Nat.le_trans HSz.out HB5.out.size
          clear HA1 HA2 HA3 HBt HB5 HI HW4 HSz HR HS HTab
          go_wp2_with fail
          go_loopw [60] (fun t wr => ∃ (i : Nat) (L : Nat → Ls), i ≤ 6 ∧ t = .int .i64 i ∧ Hid (KP1 24 posW (othW S1) 6 w5.heap.size w6.heap.size w8 wr g1 i i one L)) (fun t _ => 6 - (intOf t).toNat)
          case atStart => exact ⟨0, one, by omega, rfl, AA.out.k1⟩
          case round =>
            obtain ⟨i, L, hi8, rfl, HK⟩ := hrel
            by_cases hlt : i < 6
            · obtain ⟨wr1, hwr1⟩ : ∃ x : World, x = wr := ⟨wr, rfl⟩
              subst hwr1
              obtain ⟨T2, T3, I4⟩ := AA.out.t1 HK.out.tur
              have hLi := HK.out.old i (Nat.le_refl _) hlt
              obtain ⟨p1, n1, c1, f1, hone⟩ : ∃ a b c d, one i = ⟨a, b, c, d⟩ := ⟨_, _, _, _, rfl⟩
              obtain ⟨p2, n2, c2, f2, htwo⟩ : ∃ a b c d, two i = ⟨a, b, c, d⟩ := ⟨_, _, _, _, rfl⟩
              obtain ⟨p3, n3, c3, f3, hwant⟩ : ∃ a b c d, want i = ⟨a, b, c, d⟩ := ⟨_, _, _, _, rfl⟩
              obtain ⟨q1, hq1⟩ : ∃ x, S1 i = x := ⟨_, rfl⟩
              obtain ⟨q2, hq2⟩ : ∃ x, S2 i = x := ⟨_, rfl⟩
              obtain ⟨q3, hq3⟩ : ∃ x, S3 i = x := ⟨_, rfl⟩
              obtain ⟨s1b, s1s⟩ := fam_cells HK.out.fam hlt
              obtain ⟨s2b, s2s⟩ := fam_cells T2.fam hlt
              obtain ⟨s3b, s3s⟩ := fam_cells T3.fam hlt
              rw [hLi, hone] at s1s; rw [htwo] at s2s; rw [hwant] at s3s; rw [hq1] at s1b; rw [hq2] at s2b; rw [hq3] at s3b
              replace s1s : wr1.cell? ⟨g1, i * 2 + 1, none⟩ = some (.slice p1 n1 c1) := s1s
              replace s2s : wr1.cell? ⟨g2, i * 2 + 1, none⟩ = some (.slice p2 n2 c2) := s2s
              replace s3s : wr1.cell? ⟨g3, i * 2 + 1, none⟩ = some (.slice p3 n3 c3) := s3s
              obtain ⟨⟨lm1, wf1, le1, v1⟩, ⟨lm2, wf2, le2, v2⟩, ⟨lm3, wf3, le3, v3⟩⟩ := AA.out.form i hlt
              rw [hone, hq1] at wf1 v1; rw [hone] at lm1 le1; rw [htwo, hq2] at wf2 v2; rw [htwo] at lm2 le2; rw [hwant, hq3] at wf3 v3; rw [hwant] at lm3 le3
              replace le1 : n1 ≤ 2000 := le1; replace le2 : n2 ≤ 2000 := le2; replace le3 : n3 ≤ 2000 := le3
              have o1 : Lo .u64 28 wr1 ⟨p1, n1, c1, f1⟩ := by have := HK.out.own i hlt; rw [hLi, hone] at this; exact this
              have o2 : Lo .u64 28 wr1 ⟨p2, n2, c2, f2⟩ := by have := T2.own i hlt; rw [htwo] at this; exact this
              have o3 : Lo .u64 28 wr1 ⟨p3, n3, c3, f3⟩ := by have := T3.own i hlt; rw [hwant] at this; exact this
              have CS1 : Hid (∀ W, Below wr1.heap.size wr1 W → Calls Tryz.prog 11 #[.agg #[.bool q1, .slice p1 n1 c1], .agg #[.bool q3, .slice p3 n3 c3]] W fun e w' => e = .returned (.bool true) ∧ Below W.heap.size W w') := fun W hW =>
                wSame_true q1 q3 p1 p3 n1 n3 c1 c3 f1 f3 W (by omega) (by omega) (o1.rd.below hW (Nat.le_refl _)) (o3.rd.below hW (Nat.le_refl _)) lm1 lm3 wf1 wf3 (v1.trans v3.symm)
              have CS2 : Hid (∀ W, Below wr1.heap.size wr1 W → Calls Tryz.prog 11 #[.agg #[.bool q2, .slice p2 n2 c2], .agg #[.bool q3, .slice p3 n3 c3]] W fun e w' => e = .returned (.bool true) ∧ Below W.heap.size W w') := fun W hW =>
                wSame_true q2 q3 p2 p3 n2 n3 c2 c3 f2 f3 W (by omega) (by omega) (o2.rd.below hW (Nat.le_refl _)) (o3.rd.below hW (Nat.le_refl _)) lm2 lm3 wf2 wf3 (v2.trans v3.symm)
              have HLi := hid (hLi.trans hone)
              clear T2 T3 I4 hLi lm1 wf1 v1 lm2 wf2 le2 v2 lm3 wf3 le3 v3 o1 o2 o3 hone htwo hwant hq1 hq2 hq3
              have i7 : ((i : Nat) : Int) < 6 := by omega
              go_upto_region 12 with fail
              go_cut [84] from 63 to 83 (fun u wx => ∃ (wy : World), wy = wx ∧ u = .bool false ∧ Below wr1.heap.size wr1 wy)
              case first =>
                go_region_held3 (fun w' => w'.cell? ⟨g1, i * 2, none⟩ = some (.bool q1) ∧ w'.cell? ⟨g1, i * 2 + 1, none⟩ = some (.slice p1 n1 c1) ∧ w'.cell? ⟨g2, i * 2, none⟩ = some (.bool q2) ∧ w'.cell? ⟨g2, i * 2 + 1, none⟩ = some (.slice p2 n2 c2) ∧ w'.cell? ⟨g3, i * 2, none⟩ = some (.bool q3) ∧ w'.cell? ⟨g3, i * 2 + 1, none⟩ = some (.slice p3 n3 c3))
                  (refine ⟨?_, ?_, ?_, ?_, ?_, ?_⟩ <;> repeat (with_reducible first | assumption | refine kCd ?_ | refine kCa ?_ | refine kCb (by assumption) ?_))
                  (first
                    | (go_at_call 11; with_reducible refine (CS1.out _ (by repeat (with_reducible first | assumption | exact Below.refl _ _ | refine Below.drew ?_ | refine kBa ?_ | refine kBb (by assumption) ?_))).mono ?_; rintro e w12 ⟨rfl, hb12⟩)
                    | (go_at_call 11; with_reducible refine (CS2.out _ (by repeat (with_reducible first | assumption | exact Below.refl _ _ | refine Below.drew ?_ | refine kBa ?_ | refine kBb (by assumption) ?_))).mono ?_; rintro e w13 ⟨rfl, hb13⟩))
                all_goals
                  go_wp2_with fail
                  go_meet
                  exact ⟨_, rfl, rfl, (by repeat (with_reducible first | assumption | exact Below.refl _ _ | refine Below.drew ?_ | refine kBa ?_ | refine kBb (by assumption) ?_))⟩
              case rest =>
                obtain ⟨wq, rfl, rfl, hbq⟩ := hcut
                have HKq := hid (HK.out.below hbq)
                clear CS1 CS2 s1b s2b s3b s1s s2s s3s HK hbq
                have s1s : wq.cell? ⟨g1, i * 2 + 1, none⟩ = some (.slice p1 n1 c1) := by have := (fam_cells HKq.out.fam hlt).2; rw [HLi.out] at this; exact this
                go_wp2_with fail
                go_loopw [91] (fun t wr => ∃ (j : Nat) (f2 : Nat → Int) (L2 : Nat → Ls), j ≤ n1 ∧ t = .int .i64 j ∧ Hid (L2 i = ⟨p1, n1, c1, f2⟩) ∧ Hid (0 < j → f2 0 = 100 * (i : Int)) ∧ Hid (KP1 24 posW (othW S1) 6 w5.heap.size w6.heap.size w8 wr g1 i (i + 1) one L2)) (fun t _ => n1 - (intOf t).toNat)
                case atStart => exact ⟨0, f1, L, by omega, rfl, HLi.out, fun h => by omega, HKq.out.mono⟩
                case round =>
                  obtain ⟨j, f2, L2, hj, rfl, HL2, HF0, HK2⟩ := hrel
                  clear HKq HLi s1s
                  have s1s : wr.cell? ⟨g1, i * 2 + 1, none⟩ = some (.slice p1 n1 c1) := by have := (fam_cells HK2.out.fam hlt).2; rw [HL2.out] at this; exact this
                  have o2 : Lo .u64 28 wr ⟨p1, n1, c1, f2⟩ := by have := HK2.out.own i hlt; rw [HL2.out] at this; exact this
                  by_cases hjl : j < n1
                  · obtain ⟨gi, og, hpe⟩ := o2.rd.at (show 0 < n1 by omega)
                    have hpe2 : p1 = some ⟨gi, og, none⟩ := hpe
                    subst hpe2
                    obtain ⟨gi3, e2, _⟩ := own_at o2
                    cases e2
                    have hcell : wr.cell? ⟨gi, j, none⟩ = some (.int .u64 (f2 j)) := by
                      have := o2.rd.cell (j := j) hjl
                      rw [Nat.zero_add] at this; exact this
                    have hfz := own_frozen o2 j
                    have i8 : ((j : Nat) : Int) < ((n1 : Nat) : Int) := by omega
                    have hst := HK2.out.store hlt (Nat.lt_succ_self i) (g := gi) (j := j) (by rw [HL2.out]) (by rw [HL2.out]; exact hjl) (100 * (i : Int) + (j : Int))
                    rw [HL2.out] at hst
                    have HST := hid hst
                    clear o2 hst hpe
                    go_wp2
                    go_roundw
                    case rel =>
                      refine ⟨j + 1, upd f2 j (100 * (i : Int) + (j : Int)), _, by omega, by go_num, updL_same _ _ _, ?_, HST.out⟩
                      intro _
                      by_cases h0 : j = 0
                      · subst h0; rw [upd_same]; omega
                      · rw [upd_other _ _ _ _ (by omega)]; exact HF0.out (by omega)
                    case measure => simp [intOf]; omega
                  · obtain rfl : n1 = j := by omega
                    have o4 := hid (o2.alloc (.cells #[.int .u64 (9000 + (i : Int))] 28)); have K4 := hid (HK2.out.alloc (.cells #[.int .u64 (9000 + (i : Int))] 28))
                    clear o2 HK2
                    go_wp2_with (at_builtin; go_must (refine wpList_append_where .u64 _ rfl (.tmp 113) (.tmp 117) 22 rfl 0 28 8 Tryz.underlying22 Tryz.infoU64 p1 n1 c1 f2 rfl o4.out wr.heap.size 0 1 1 (fun _ => 9000 + (i : Int)) rfl (rd_new1 wr _ _) (by omega) (by unfold maxLen; omega) (by omega) (Nat.zero_le _) ?_))
                    intro gn cn w11 hxo hgr hwh
                    obtain ⟨kk, fam11⟩ := K4.out.grow hlt (g := gn) (n' := n1 + 1) (c' := cn) (f' := cat f2 n1 (fun _ => 9000 + (i : Int))) (by rw [HL2.out]; exact hgr) hxo (by rw [HL2.out]; simpa using hwh) (sp_mkW le1 HF0.out)
                    rw [posW_eq] at kk
                    have hcw : w11.cell? ⟨g1, i * 2 + 1, none⟩ = some (.slice p1 n1 c1) := by have := (fam_cells fam11 hlt).2; rw [HL2.out] at this; exact this
                    have hfw := fam11.frozen (i * 2 + 1)
                    have KK := hid kk
                    clear o4 K4 hxo hgr hwh kk fam11 s1s
                    go_wp2
                    go_roundw
                    case rel => exact ⟨i + 1, _, by omega, by go_num, KK.out⟩
                    case measure => simp [intOf]; omega
            · have e8 : i = 6 := by omega
              have HK8 : Hid (KP1 24 posW (othW S1) 6 w5.heap.size w6.heap.size w8 wr g1 6 6 one L) := by rw [e8] at HK; exact HK
              have i9 : ¬ (((i : Nat) : Int) < 6) := by omega
              clear HK e8
              have HK := HK8
              clear HK8
              obtain ⟨wa, hwa⟩ : ∃ x : World, x = wr := ⟨wr, rfl⟩
              subst hwa
              go_wp2_with fail
              go_loopw [124] (fun t wr => ∃ (i : Nat), i ≤ 6 ∧ t = .int .i64 i ∧ Hid (KP2 24 posW (othW S2) 6 w6.heap.size w7.heap.size wa wr g2 i two)) (fun t _ => 6 - (intOf t).toNat)
              case atStart => exact ⟨0, by omega, rfl, AA.out.k2 HK.out.tur⟩
              case round =>
                obtain ⟨i, hi, rfl, HK2⟩ := hrel
                by_cases hlt2 : i < 6
                · obtain ⟨wr1, hwr1⟩ : ∃ x : World, x = wr := ⟨wr, rfl⟩
                  subst hwr1
                  obtain ⟨T1, T3, I4, _⟩ := AA.out.t2 HK.out HK2.out.tur
                  obtain ⟨p2, n2, c2, f2, htwo⟩ : ∃ a b c d, two i = ⟨a, b, c, d⟩ := ⟨_, _, _, _, rfl⟩
                  obtain ⟨p3, n3, c3, f3, hwant⟩ : ∃ a b c d, want i = ⟨a, b, c, d⟩ := ⟨_, _, _, _, rfl⟩
                  obtain ⟨q2, hq2⟩ : ∃ x, S2 i = x := ⟨_, rfl⟩
                  obtain ⟨q3, hq3⟩ : ∃ x, S3 i = x := ⟨_, rfl⟩
                  obtain ⟨s2b, s2s⟩ : wr1.cell? ⟨g2, i * 2, none⟩ = some (.bool q2) ∧ wr1.cell? ⟨g2, i * 2 + 1, none⟩ = some (.slice p2 n2 c2) := by
                    obtain ⟨M, hM, hM2⟩ := HK2.out.fam
                    have := fam_cells hM hlt2
                    rw [hM2 i (Nat.le_refl _) hlt2, htwo, hq2] at this
                    exact this
                  obtain ⟨s3b, s3s⟩ := fam_cells T3.fam hlt2
                  rw [hwant] at s3s; rw [hq3] at s3b
                  replace s3s : wr1.cell? ⟨g3, i * 2 + 1, none⟩ = some (.slice p3 n3 c3) := s3s
                  obtain ⟨_, ⟨lm2, wf2, le2, v2⟩, ⟨lm3, wf3, le3, v3⟩⟩ := AA.out.form i hlt2
                  rw [htwo, hq2] at wf2 v2; rw [htwo] at lm2 le2; rw [hwant, hq3] at wf3 v3; rw [hwant] at lm3 le3
                  replace le2 : n2 ≤ 2000 := le2; replace le3 : n3 ≤ 2000 := le3
                  have o2 : Lo .u64 28 wr1 ⟨p2, n2, c2, f2⟩ := by have := HK2.out.own i (Nat.le_refl _) hlt2; rw [htwo] at this; exact this
                  have o3 : Lo .u64 28 wr1 ⟨p3, n3, c3, f3⟩ := by have := T3.own i hlt2; rw [hwant] at this; exact this
                  have CS2 : Hid (∀ W, Below wr1.heap.size wr1 W → Calls Tryz.prog 11 #[.agg #[.bool q2, .slice p2 n2 c2], .agg #[.bool q3, .slice p3 n3 c3]] W fun e w' => e = .returned (.bool true) ∧ Below W.heap.size W w') := fun W hW =>
                    wSame_true q2 q3 p2 p3 n2 n3 c2 c3 f2 f3 W (by omega) (by omega) (o2.rd.below hW (Nat.le_refl _)) (o3.rd.below hW (Nat.le_refl _)) lm2 lm3 wf2 wf3 (v2.trans v3.symm)
                  have O2 := hid o2; have HTwo := hid htwo
                  clear T1 T3 I4 lm2 wf2 v2 lm3 wf3 le3 v3 o2 o3 hwant hq2 hq3 htwo
                  have i7 : ((i : Nat) : Int) < 6 := by omega
                  go_upto_region 24 with fail
                  go_cut [136] from 127 to 135 (fun u wx => ∃ (wy : World), wy = wx ∧ u = .bool false ∧ Below wr1.heap.size wr1 wy)
                  case first =>
                    go_region_held3 (fun w' => w'.cell? ⟨g2, i * 2, none⟩ = some (.bool q2) ∧ w'.cell? ⟨g2, i * 2 + 1, none⟩ = some (.slice p2 n2 c2) ∧ w'.cell? ⟨g3, i * 2, none⟩ = some (.bool q3) ∧ w'.cell? ⟨g3, i * 2 + 1, none⟩ = some (.slice p3 n3 c3))
                      (refine ⟨?_, ?_, ?_, ?_⟩ <;> repeat (with_reducible first | assumption | refine kCd ?_ | refine kCa ?_ | refine kCb (by assumption) ?_))
                      (first | (go_at_call 11; with_reducible refine (CS2.out _ (by repeat (with_reducible first | assumption | exact Below.refl _ _ | refine Below.drew ?_ | refine kBa ?_ | refine kBb (by assumption) ?_))).mono ?_; rintro e w13 ⟨rfl, hb13⟩))
                    all_goals
                      go_wp2_with fail
                      go_meet
                      exact ⟨_, rfl, rfl, (by repeat (with_reducible first | assumption | exact Below.refl _ _ | refine Below.drew ?_ | refine kBa ?_ | refine kBb (by assumption) ?_))⟩
                  case rest =>
                    obtain ⟨wq, rfl, rfl, hbq⟩ := hcut
                    have HKq := hid (HK2.out.below hbq); have Oq : Hid (Lo .u64 28 wq ⟨p2, n2, c2, f2⟩) := Own.below O2.out hbq
                    have s2q := kCb hbq s2s
                    clear CS2 s2b s2s s3b s3s HK2 O2 hbq
                    have o4 := hid (Oq.out.alloc (.cells #[.int .u64 (8000 + (i : Int))] 28)); have K4 := hid (HKq.out.alloc (.cells #[.int .u64 (8000 + (i : Int))] 28))
                    clear Oq HKq
                    go_wp2_with (at_builtin; go_must (refine wpList_append_where .u64 _ rfl (.tmp 143) (.tmp 147) 22 rfl 0 28 8 Tryz.underlying22 Tryz.infoU64 p2 n2 c2 f2 rfl o4.out wq.heap.size 0 1 1 (fun _ => 8000 + (i : Int)) rfl (rd_new1 wq _ _) (by omega) (by unfold maxLen; omega) (by omega) (Nat.zero_le _) ?_))
                    intro gn cn w11 hxo hgr hwh
                    obtain ⟨kk, hcw, hfw⟩ := K4.out.grow hlt2 (some ⟨gn, 0, none⟩) (n2 + 1) cn (by rw [HTwo.out]; exact hgr)
                    rw [posW_eq] at kk hcw hfw
                    rw [HTwo.out] at hcw
                    have hcw2 : w11.cell? ⟨g2, i * 2 + 1, none⟩ = some (.slice p2 n2 c2) := hcw
                    have KK := hid kk
                    obtain ⟨T1, T3, I4, _⟩ := AA.out.t2 HK.out kk.tur
                    obtain ⟨p1, n1, c1, f1, hL⟩ : ∃ a b c d, L i = ⟨a, b, c, d⟩ := ⟨_, _, _, _, rfl⟩
                    have hsp := HK.out.new i hlt2
                    have o1 := T1.own i hlt2
                    have hc1 := (fam_cells T1.fam hlt2).2
                    rw [hL] at hsp o1 hc1
                    obtain ⟨r1, r2, r3, r4⟩ := hsp
                    obtain ⟨k, rfl⟩ : ∃ k, n1 = k + 1 := ⟨n1 - 1, by have : 0 < n1 := r1; omega⟩
                    obtain ⟨gi, og, hpe⟩ := o1.rd.at (show 0 < k + 1 by omega)
                    have hpe2 : p1 = some ⟨gi, og, none⟩ := hpe
                    subst hpe2
                    obtain ⟨gi3, e2, _⟩ := own_at o1
                    cases e2
                    have hcl := o1.rd.cell (j := k) (Nat.lt_succ_self k)
                    rw [Nat.zero_add, show (Ls.mk (some ⟨gi, 0, none⟩) (k + 1) c1 f1).f k = 9000 + (i : Int) from r3] at hcl
                    have hk4 : k + 1 ≤ 4096 := r2
                    have hcg : (w11.setCell ⟨g2, i * 2 + 1, none⟩ (.slice (some ⟨gn, 0, none⟩) (n2 + 1) cn)).cell? ⟨g1, i * 2 + 1, none⟩ = some (.slice (some ⟨gi, 0, none⟩) (k + 1) c1) := hc1
                    generalize hW : w11.setCell ⟨g2, i * 2 + 1, none⟩ (.slice (some ⟨gn, 0, none⟩) (n2 + 1) cn) = W at hcl hcg KK
                    clear o4 K4 hxo hgr hwh kk hcw s2q T1 T3 I4 o1 hc1 r1 r2 r3 r4 hpe
                    have HW := hid hW
                    clear hW
                    go_wp2_with fail
                    rw [HW.out]
                    clear HW
                    have i8 : ((k : Nat) : Int) < ((k + 1 : Nat) : Int) := by omega
                    go_quiet (fail)
                    go_wp2
                    go_roundw
                    case rel => exact ⟨i + 1, by omega, by go_num, KK.out.drewN _⟩
                    case measure => simp [intOf]; omega
                · have j9 : ¬ (((i : Nat) : Int) < 6) := by omega
                  obtain ⟨T1, T3, hI, hB⟩ := AA.out.t2 HK.out HK2.out.tur
                  have BF := hid (B8.out.trans (hB.mono S5.out))
                  have I8 := hid hI
                  clear T1 T3 hI hB HK HK2
                  obtain ⟨za, a0, a1⟩ := I8.out.ba
                  obtain ⟨zb, b0, b1⟩ := I8.out.bb
                  obtain ⟨z7, x0, x1⟩ := I8.out.bx
                  obtain ⟨z8, y0, y1⟩ := I8.out.bz
                  go_wp2_with fail
                  refine (wSame_self sa (some ⟨ga, 0, none⟩) ao n cA ca f _ (by omega) (cat_rd1 I8.out.xa).1 I8.out.ra).mono ?_
                  rintro e w19 ⟨rfl, hb19⟩
                  have I9 := hid (I8.out.below hb19); have BF2 := hid (BF.out.trans (hb19.mono BF.out.size))
                  clear hb19 I8 BF a0 a1 b0 b1 x0 x1 y0 y1 za zb z7 z8
                  obtain ⟨za, a0, a1⟩ := I9.out.ba
                  obtain ⟨zb, b0, b1⟩ := I9.out.bb
                  obtain ⟨z7, x0, x1⟩ := I9.out.bx
                  obtain ⟨z8, y0, y1⟩ := I9.out.bz
                  go_wp2_with fail
                  refine (wSame_self sb (some ⟨gb, 0, none⟩) bo m cB cb g _ (by omega) (cat_rd1 I9.out.xb).1 I9.out.rb).mono ?_
                  rintro e w20 ⟨rfl, hb20⟩
                  have I10 := hid (I9.out.below hb20); have BF := hid (BF2.out.trans (hb20.mono BF2.out.size))
                  clear hb20 I9 BF2 a0 a1 b0 b1 x0 x1 y0 y1 za zb z7 z8
                  obtain ⟨za, a0, a1⟩ := I10.out.ba
                  obtain ⟨zb, b0, b1⟩ := I10.out.bb
                  have ca1 := (cat_rd1 I10.out.xa).2.1
                  have cb1 := (cat_rd1 I10.out.xb).2.1
                  have i5 : ((n : Nat) : Int) < ((n + 1 : Nat) : Int) := by omega
                  have i6 : ((m : Nat) : Int) < ((m + 1 : Nat) : Int) := by omega
                  go_wp2
                  go_ret
                  exact ⟨rfl, BF.out⟩
end Go.Proofs.YtclopblgdiahiaaGreatDoor

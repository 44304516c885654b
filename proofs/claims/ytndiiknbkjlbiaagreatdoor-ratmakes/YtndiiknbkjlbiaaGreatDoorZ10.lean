/-
  Walks of package rat's clone, Copy and Neg. The walk of package rat's call Cmp. Walks of the document's reference for rat: Add, Sub, Cmp. Walks of rat's Sign and Cmp, whatever they are handed, and of the document's: DocSign, DocCmp. Walks of the document's reference for rat: Mul, Quo, Int, To, DocOf, DocNeg. Walks of rat's calls where they tell that a number is not in form, and of the document's Doc, DocNeg there; DocNeg. Walks of the document's reference for rat: Int, DocOf.
-/
import Derived.Test.YtndiiknbkjlbiaaGreatDoorZ8
import Derived.Test.YtndiiknbkjlbiaaGreatDoorZ9
namespace Go.Proofs.YtndiiknbkjlbiaaGreatDoor
open Go.RowKit

set_option maxRecDepth 100000 in
set_option maxHeartbeats 400000 in
theorem rclone_c (ao : Option Addr) (n cap : Nat) (f : Nat → Int) (w : World) (hn : n ≤ 1048576) (hr : Rd .u64 w ao n f) (hnil : ao = none → n = 0 ∧ cap = 0) :
    Calls Tryz.prog 90 #[.slice ao n cap] w fun e w' => ∃ ao' cap', e = .returned (.slice ao' n cap') ∧ Below w.heap.size w w' ∧ Own .u64 83 w' w.heap.size (.slice ao' n cap') n f := by
  cases ao with
  | none =>
    obtain ⟨rfl, rfl⟩ := hnil rfl
    go_enter Tryz.func90, Tryz.ntmps90
    obtain ⟨i0, hi, hz0, hz1, hz2⟩ := info_parts Tryz.infoU64
    go_wp2_with (at_builtin; refine wpList_append_own_none rfl (.const (.slice none 0 0)) (.tmp 3) 22 rfl w.heap.size 83 i0 1 Tryz.underlying22 hi (.slice none 0 0) 0 [] rfl (World.ownsRow_nil _ _ _ _) rfl ?_)
    go_ret
    exact ⟨none, 0, rfl, Below.refl _ _, own_nil _ _ _ _ _⟩
  | some ad =>
    clear hnil
    have HR := hid hr
    clear hr
    go_enter Tryz.func90, Tryz.ntmps90
    obtain ⟨i0, hi, hz0, hz1, hz2⟩ := info_parts Tryz.infoU64
    go_wp2_with (at_builtin; refine wpList_append_own w rfl (.const (.slice none 0 0)) (.tmp 3) 22 rfl w.heap.size 83 i0 (.int .u64 0) 1 8 Tryz.underlying22 hi hz0 hz1 hz2 rfl (by decide) (.slice none 0 0) 0 [] rfl (World.ownsRow_nil _ _ _ _) ad n cap (lst .u64 f n) rfl (by rw [lst_length, Nat.mul_one]) ?c1 (lst_one _ _ _) ?c2 ?c3 (Nat.le_refl _) ?_)
    case c1 =>
      intro j u hu
      obtain ⟨hj, rfl⟩ := lst_getE hu
      obtain ⟨b, o, e, hc⟩ := HR.out j hj
      cases e
      rw [addr_add]; exact hc
    case c2 => unfold maxLen; omega
    case c3 => omega
    intro v' w' hown hgr _
    have hown' : Own .u64 83 w' w.heap.size v' n f := hown
    have hbel : Below w.heap.size w w' := (Below.refl _ _).grown hgr (Nat.le_refl _) (fun k h => by simp [Value.ownBlock] at h)
    obtain ⟨ao', cap', hv, hcc, hnn, hml, hrd, hlt⟩ := hown'.shape
    rw [hv] at hown' ⊢
    clear hown hgr hv
    have HO := hid hown'
    clear hown'
    go_wp2
    go_ret
    exact ⟨ao', cap', rfl, hbel, HO.out⟩
theorem cloneWn_c {w s x n c f v} (h : Wn w s x n c f v) (hn : n ≤ 4096) :
    Calls Tryz.prog 90 #[.slice x n c] w fun e w' => ∃ z c', e = .returned (.slice z n c') ∧ Below w.heap.size w w' ∧ Hid (Wn w' s z n c' f v) :=
  (rclone_c x n c f w (by omega) h.rd h.nil).mono (fun _ _ ⟨z, c', h1, h2, h3⟩ => ⟨z, c', h1, h2, h3.slice.2.2.2.1, h.lm, h.wf, ⟨h3.slice.1, h3.slice.2.1⟩, h3.slice.2.2.1, h.val⟩)

set_option maxRecDepth 100000 in
set_option maxHeartbeats 4000000 in
theorem rCopy_n {L : Nat} {w : World} {sa : Bool} {xa : Option Addr} {na ca : Nat} {fa : Nat → Int} {ya : Option Addr} {ma da : Nat} {ga : Nat → Int} {a : Rat} (ha : Rn L w sa xa na ca fa ya ma da ga a) (hL : L ≤ 1000) :
    Calls Tryz.prog 53 #[.agg #[.bool sa, .slice xa na ca, .slice ya ma da]] w fun e w' => ∃ x c y d, e = .returned (.agg #[.bool sa, .slice x na c, .slice y ma d]) ∧ Below w.heap.size w w' ∧ Rn L w' sa x na c fa y ma d ga a := by
  have b1 := ha.ln; have b2 := ha.ld
  have h1 := (ha.alloc (.cells #[.bool sa, .slice xa na ca, .slice ya ma da] 24)).alloc (.cells #[.bool false, .slice none 0 0, .slice none 0 0] 24)
  have h3 := ob_new (w.alloc (.cells #[.bool sa, .slice xa na ca, .slice ya ma da] 24)) 24
  rw [size_alloc1] at h3
  have h4 := below_alloc (below_alloc (Below.refl w.heap.size w) (.cells #[.bool sa, .slice xa na ca, .slice ya ma da] 24)) (.cells #[.bool false, .slice none 0 0, .slice none 0 0] 24)
  have h5 := (bx3_at w (.bool sa) (.slice xa na ca) (.slice ya ma da) 24).alloc (.cells #[.bool false, .slice none 0 0, .slice none 0 0] 24)
  clear ha
  go_enter Tryz.func53, Tryz.ntmps53
  go_wp2_with fail
  generalize (w.alloc (.cells #[.bool sa, .slice xa na ca, .slice ya ma da] 24)).alloc (.cells #[.bool false, .slice none 0 0, .slice none 0 0] 24) = w1 at *
  have HA := hid h1; have OB := h3; have HW := hid h4
  obtain ⟨hz, z0, z1, z2, zf⟩ := h3
  obtain ⟨hy, x0, x1, x2⟩ := h5
  clear h1 h4
  have C1 : Hid (∀ W, Below w1.heap.size w1 W → Calls Tryz.prog 90 #[.slice xa na ca] W fun e w' => ∃ z c', e = .returned (.slice z na c') ∧ Below W.heap.size W w' ∧ Hid (Wn w' sa z na c' fa a.num)) := fun W hW => cloneWn_c (HA.out.num.below hW) (by omega)
  have C2 : Hid (∀ W, Below w1.heap.size w1 W → Calls Tryz.prog 90 #[.slice ya ma da] W fun e w' => ∃ z c', e = .returned (.slice z ma c') ∧ Below W.heap.size W w' ∧ Hid (Wn w' false z ma c' ga (a.den : Int))) := fun W hW => cloneWn_c (HA.out.den.below hW) (by omega)
  go_region_held3 (fun w' => w'.cell? ⟨w.heap.size, 0, none⟩ = some (.bool sa) ∧ w'.cell? ⟨w.heap.size, 1, none⟩ = some (.slice xa na ca) ∧ w'.cell? ⟨w.heap.size, 2, none⟩ = some (.slice ya ma da) ∧ (w'.cell? ⟨w.heap.size + 1, 0, none⟩).isSome = true ∧ (w'.cell? ⟨w.heap.size + 1, 1, none⟩).isSome = true ∧ (w'.cell? ⟨w.heap.size + 1, 2, none⟩).isSome = true ∧ w'.frozen? ⟨w.heap.size + 1, 0, none⟩ = false ∧ w'.frozen? ⟨w.heap.size + 1, 1, none⟩ = false ∧ w'.frozen? ⟨w.heap.size + 1, 2, none⟩ = false)
    (refine ⟨?_, ?_, ?_, ?_, ?_, ?_, ?_, ?_, ?_⟩ <;> repeat (with_reducible first | assumption | exact zf _ | exact kI0 z0 | exact kI0 z1 | exact kI0 z2 | exact tf _ | exact kI0 t0 | exact kI0 t1 | exact kI0 t2 | exact uf _ | exact kI0 u0 | exact kI0 u1 | exact kI0 u2 | refine kCd ?_ | refine kId ?_ | refine kFd ?_ | refine kCs (by simp only [ne_eq]; omega) ?_ | refine kIs ?_ | refine kFs ?_ | refine kCb (by assumption) ?_ | refine kIb (by assumption) ?_))
    (first
      | (go_at_call 90; with_reducible refine (C1.out _ (by repeat (with_reducible first | assumption | exact Below.refl _ _ | refine Below.drew ?_ | refine kBa ?_ | refine kBb (by assumption) ?_))).mono ?_; rintro e w5 ⟨zp, cp, rfl, hb5, HP⟩; have TU : Ob w5 (w.heap.size + 1) := (by repeat (with_reducible first | exact OB | exact TU | exact TV | refine Ob.drew ?_ | refine kOb (by assumption) ?_)); obtain ⟨_, t0, t1, t2, tf⟩ := id TU)
      | (go_at_call 90; with_reducible refine (C2.out _ (by repeat (with_reducible first | assumption | exact Below.refl _ _ | refine Below.drew ?_ | refine kBa ?_ | refine kBb (by assumption) ?_))).mono ?_; rintro e w6 ⟨zq, cq, rfl, hb6, HQ⟩; have TV : Ob w6 (w.heap.size + 1) := (by repeat (with_reducible first | exact OB | exact TU | exact TV | refine Ob.drew ?_ | refine kOb (by assumption) ?_)); obtain ⟨_, u0, u1, u2, uf⟩ := id TV))
  have WA := HP.out.below hb6
  have hb : Below w1.heap.size w1 w6 := (by repeat (with_reducible first | assumption | exact Below.refl _ _ | refine Below.drew ?_ | refine kBa ?_ | refine kBb (by assumption) ?_))
  go_wp2
  exact bodyPost_ret (v := .agg #[.bool sa, .slice zp na cp, .slice zq ma cq]) (by simp [results, Tryz.results53, go_sem, u0, u1, u2]) rfl ⟨zp, cp, zq, cq, rfl, below_st (HW.out.trans (hb.mono HW.out.size)) (by omega), TV.wn WA, TV.wn HQ.out, b1, b2⟩

set_option maxRecDepth 100000 in
set_option maxHeartbeats 4000000 in
theorem rNeg_n {L : Nat} {w : World} {sa : Bool} {xa : Option Addr} {na ca : Nat} {fa : Nat → Int} {ya : Option Addr} {ma da : Nat} {ga : Nat → Int} {a : Rat} (ha : Rn L w sa xa na ca fa ya ma da ga a) (hL : L ≤ 1000) :
    Calls Tryz.prog 15 #[.agg #[.bool sa, .slice xa na ca, .slice ya ma da]] w fun e w' => RatTup L w w' e (-a) := by
  have HA0 := hid ha
  have b1 := ha.num.cap
  clear ha
  go_enter Tryz.func15, Tryz.ntmps15
  go_wp2_with fail
  refine (rForm_n ((HA0.out.alloc _).alloc _) (by omega)).mono ?_
  rintro e w1 ⟨rfl, hbel⟩
  have hbx := ((bx3_at w _ _ _ _).alloc _).below hbel
  have hob := (ob_new (w.alloc _) _).below hbel
  rw [size_alloc1] at hob
  have HW1 : Hid (Below w.heap.size w w1) := (below_alloc (below_alloc (Below.refl w.heap.size w) _) _).trans (hbel.mono (by simp; omega))
  have HA1 := hid (HA0.out.below HW1.out); have OB1 := hid hob
  clear hbel hob HA0
  obtain ⟨za, x0, x1, x2⟩ := hbx
  go_wp2_with fail
  refine (rCopy_n HA1.out hL).mono ?_
  rintro e w2 ⟨xp, cp, yp, dp, rfl, hb, hr⟩
  have RP2 := hid hr; have OB2 := hid (OB1.out.below hb); have HW2 := hid (HW1.out.trans (hb.mono HW1.out.size))
  clear hr hb OB1 HW1 HA1 za x0 x1 x2
  go_wp2_with fail
  refine (rsigned_c _ xp yp na cp ma dp _ (by omega)).mono ?_
  rintro e w3 ⟨rs, rfl, HRS, hb⟩
  have RP3 := hid (RP2.out.next hb); have OB3 := hid (OB2.out.next hb); have HW3 := hid ((below_alloc HW2.out _).trans (hb.mono (below_alloc HW2.out _).size))
  clear hb RP2 OB2 HW2
  obtain ⟨hz, z0, z1, z2, zf⟩ := OB3.out
  go_wp2
  exact bodyPost_ret (v := .tuple #[.agg #[.bool rs, .slice xp na cp, .slice yp ma dp], .int .i64 0]) (by simp [results, Tryz.results15, go_sem, z0, z1, z2]) rfl ⟨rs, xp, na, cp, fa, yp, ma, dp, ga, rfl, below_st HW3.out (by omega), OB3.out.rn (RP3.out.negate HRS.out)⟩
end Go.Proofs.YtndiiknbkjlbiaaGreatDoor
namespace Go.Proofs.YtndiiknbkjlbiaaGreatDoor
open Go.RowKit

/-- How two numbers lie to one another. -/
def ROrd (c : Int) (a b : Rat) : Prop := c = -1 ∧ a < b ∨ c = 0 ∧ a = b ∨ c = 1 ∧ b < a
theorem rord_of {c : Int} {a b : Rat} (h : Ord c (a.num * b.den) (b.num * a.den)) : ROrd c a b := by
  rcases h with ⟨h1, h2⟩ | ⟨h1, h2⟩ | ⟨h1, h2⟩
  · exact .inl ⟨h1, (Rat.lt_iff a b).2 h2⟩
  · refine .inr (.inl ⟨h1, Rat.le_antisymm ((Rat.le_iff a b).2 ?_) ((Rat.le_iff b a).2 ?_)⟩)
    · rw [h2]; exact Int.le_refl _
    · rw [h2]; exact Int.le_refl _
  · exact .inr (.inr ⟨h1, (Rat.lt_iff b a).2 h2⟩)
theorem prod_of {L : Nat} {w1 wx W5 w5 : World} {b4 : Nat} {r1 : Bool} {p1 : Option Addr} {k1 c1 n m : Nat} {q : Nat → Int} {v : Int} (hn : n ≤ L) (hm : m ≤ L) (hW : Below w1.heap.size w1 W5) (hD : WRes (n + m) W5 w5 r1 p1 k1 c1 q ∧ wv r1 q k1 = v) (hT : Turned w1.heap.size W5.heap.size w5 wx) (hb : Bx wx b4 r1 p1 k1 c1) : FlAt (2 * L) w1 wx b4 r1 p1 k1 c1 v := by
  have hQ := hD.1.res.turned hW hT
  have := hQ.le
  exact ⟨hb, hQ.bel, ⟨q, hQ.rd, hQ.lm, hD.1.wfB, hQ.ncap, hQ.nil', hD.2⟩, by omega⟩

set_option maxRecDepth 100000 in
set_option maxHeartbeats 8000000 in
theorem rCmp_n {L : Nat} {w : World} {sa : Bool} {xa : Option Addr} {na ca : Nat} {fa : Nat → Int} {ya : Option Addr} {ma da : Nat} {ga : Nat → Int} {a : Rat} {sb : Bool} {xb : Option Addr} {nb cb : Nat} {fb : Nat → Int} {yb : Option Addr} {mb db : Nat} {gb : Nat → Int} {b : Rat} (ha : Rn L w sa xa na ca fa ya ma da ga a) (hb : Rn L w sb xb nb cb fb yb mb db gb b) (hL : L ≤ 1000) :
    Calls Tryz.prog 19 #[.agg #[.bool sa, .slice xa na ca, .slice ya ma da], .agg #[.bool sb, .slice xb nb cb, .slice yb mb db]] w fun e w' => ∃ c, e = .returned (.tuple #[.int .i64 c, .int .i64 0]) ∧ Below w.heap.size w w' ∧ ROrd c a b := by
  have HA0 := hid ha; have HB0 := hid hb
  have b1 := ha.ln; have b2 := ha.ld; have b3 := hb.ln; have b4 := hb.ld
  clear ha hb
  go_enter Tryz.func19, Tryz.ntmps19
  go_wp2_with fail
  refine (rForm_n ((HA0.out.alloc _).alloc _) (by omega)).mono ?_
  rintro e w0 ⟨rfl, hbel⟩
  obtain ⟨ba, bb, hw⟩ := two_new hbel
  have BA0 := hid ba; have BB0 := hid bb; have HW0 := hid hw; have RA0 := hid (HA0.out.below hw); have RB0 := hid (HB0.out.below hw)
  clear hbel ba bb hw HA0 HB0
  obtain ⟨zb, y0, y1, y2⟩ := BB0.out
  go_wp2_with fail
  refine (rForm_n RB0.out (by omega)).mono ?_
  rintro e w1 ⟨rfl, hb⟩
  clear zb y0 y1 y2
  have BA1 := hid (BA0.out.below hb); have BB1 := hid (BB0.out.below hb); have RA1 := hid (RA0.out.below hb); have RB1 := hid (RB0.out.below hb); have HW1 := hid (HW0.out.trans (hb.mono HW0.out.size))
  clear BA0 BB0 RA0 RB0 HW0 hb
  obtain ⟨za, x0, x1, x2⟩ := BA1.out
  obtain ⟨zb, y0, y1, y2⟩ := BB1.out
  have C1 : Hid (∀ W, Below w1.heap.size w1 W → Calls Tryz.prog 56 #[.agg #[.bool sa, .slice xa na ca, .slice ya ma da]] W fun e w' => e = .returned (.agg #[.bool sa, .slice xa na ca]) ∧ Below W.heap.size W w') := fun W _ => numer_c sa xa ya na ca ma da W
  have C2 : Hid (∀ W, Below w1.heap.size w1 W → Calls Tryz.prog 64 #[.agg #[.bool sb, .slice xb nb cb, .slice yb mb db]] W fun e w' => e = .returned (.agg #[.bool false, .slice yb mb db]) ∧ Below W.heap.size W w') := fun W _ => denom_c sb xb yb nb cb mb db W
  have C3 : Hid (∀ W, Below w1.heap.size w1 W → Calls Tryz.prog 63 #[.agg #[.bool sa, .slice xa na ca], .agg #[.bool false, .slice yb mb db]] W fun e w' => ∃ r1 p1 k1 c1 q, e = .returned (.tuple #[.agg #[.bool r1, .slice p1 k1 c1], .int .i64 0]) ∧ Below W.heap.size W w' ∧ Hid (WRes (na + mb) W w' r1 p1 k1 c1 q ∧ wv r1 q k1 = a.num * b.den)) := fun W hW => by
    have h1 := (RA1.out.below hW).num; have h2 := (RB1.out.below hW).den
    refine (wMul_c sa false xa yb na mb ca db fa gb W (by omega) (by omega) h1.cap.1 h2.cap.1 h1.cap.2 h2.cap.2 h1.rd h2.rd h1.lm h2.lm).mono ?_
    rintro e w' ⟨r, z, k, e', h, er, rfl, hres, hans⟩
    obtain ⟨rfl, hv⟩ := hans.ok ⟨h1.wf, h2.wf⟩
    exact ⟨r, z, k, e', h, rfl, hres.res.bel, hres, by rw [hv, h1.val, h2.val]⟩
  go_upto_region 3 with fail
  go_cut [6, 7] from 18 to 25 (fun u t wx => ∃ (wy : World) (b4 : Nat) (s : Bool) (z : Option Addr) (k c : Nat), wy = wx ∧ u = .pointer (some ⟨b4, 0, none⟩) ∧ t = .int .i64 0 ∧ FlAt (2 * L) w1 wy b4 s z k c (a.num * b.den))
  case first =>
    go_region_held3 (fun w' => w'.cell? ⟨w.heap.size, 0, none⟩ = some (.bool sa) ∧ w'.cell? ⟨w.heap.size, 1, none⟩ = some (.slice xa na ca) ∧ w'.cell? ⟨w.heap.size, 2, none⟩ = some (.slice ya ma da) ∧ w'.cell? ⟨w.heap.size + 1, 0, none⟩ = some (.bool sb) ∧ w'.cell? ⟨w.heap.size + 1, 1, none⟩ = some (.slice xb nb cb) ∧ w'.cell? ⟨w.heap.size + 1, 2, none⟩ = some (.slice yb mb db))
      (refine ⟨?_, ?_, ?_, ?_, ?_, ?_⟩ <;> repeat (with_reducible first | assumption | refine kCd ?_ | refine kCa ?_ | refine kCs (by simp only [ne_eq]; omega) ?_ | refine kCb (by assumption) ?_))
      (first
        | (go_at_call 56; with_reducible refine (C1.out _ (by repeat (with_reducible first | assumption | exact Below.refl _ _ | refine Below.drew ?_ | refine kBa ?_ | refine kBb (by assumption) ?_))).mono ?_; rintro e v3 ⟨rfl, hb3⟩; have hza := hb3.size; (try simp at hza); obtain ⟨hc3, hf3⟩ := bcell hb3; (try have q100 : w1.heap.size < v3.heap.size := by omega))
        | (go_at_call 64; with_reducible refine (C2.out _ (by repeat (with_reducible first | assumption | exact Below.refl _ _ | refine Below.drew ?_ | refine kBa ?_ | refine kBb (by assumption) ?_))).mono ?_; rintro e v4 ⟨rfl, hb4⟩; have hzb := hb4.size; (try simp at hzb); obtain ⟨hc4, hf4⟩ := bcell hb4; (try have q100 : w1.heap.size < v4.heap.size := by omega); (try have q102 : v3.heap.size < v4.heap.size := by omega))
        | (go_at_call 63; with_reducible refine (C3.out _ (by repeat (with_reducible first | assumption | exact Below.refl _ _ | refine Below.drew ?_ | refine kBa ?_ | refine kBb (by assumption) ?_))).mono ?_; rintro e v5 ⟨r1, p1, k1, c1, q, rfl, hb5, HD⟩; have hzc := hb5.size; (try simp at hzc); obtain ⟨hc5, hf5⟩ := bcell hb5; (try have q100 : w1.heap.size < v5.heap.size := by omega); (try have q102 : v3.heap.size < v5.heap.size := by omega); (try have q104 : v4.heap.size < v5.heap.size := by omega)))
    all_goals
      go_wp2_with fail
      go_meet
      refine ⟨_, _, r1, p1, k1, c1, rfl, rfl, rfl, prod_of (by assumption) (by assumption) (by repeat (with_reducible first | assumption | exact Below.refl _ _ | refine Below.drew ?_ | refine kBa ?_ | refine kBb (by assumption) ?_)) HD.out (by repeat (with_reducible first | exact Turned.refl _ _ _ | refine Turned.drew ?_ | refine Turned.alloc ?_ _ | refine Turned.set ?_ (by first | omega | (simp; done) | (simp; omega)) (by first | omega | (simp; done) | (simp; omega)) _)) ⟨(by first | omega | (simp; done) | (simp; omega)), (by repeat (with_reducible first | assumption | exact kN0 | exact kN1 | (refine kM0 ?_; (simp <;> fail)) | (refine kM1 ?_; (simp <;> fail)) | exact kI0 kN0 | exact kI0 kN1 | (refine kI0 (kM0 ?_); (simp <;> fail)) | (refine kI0 (kM1 ?_); (simp <;> fail)) | refine kCd ?_ | refine kCe ?_ | refine kCo (by decide) ?_ | refine kCs (by simp only [ne_eq]; omega) ?_ | refine kCa ?_ | refine kCb (by assumption) ?_ | refine kId ?_ | refine kIs ?_ | refine kIa ?_ | refine kIb (by assumption) ?_)), (by repeat (with_reducible first | assumption | exact kN0 | exact kN1 | (refine kM0 ?_; (simp <;> fail)) | (refine kM1 ?_; (simp <;> fail)) | exact kI0 kN0 | exact kI0 kN1 | (refine kI0 (kM0 ?_); (simp <;> fail)) | (refine kI0 (kM1 ?_); (simp <;> fail)) | refine kCd ?_ | refine kCe ?_ | refine kCo (by decide) ?_ | refine kCs (by simp only [ne_eq]; omega) ?_ | refine kCa ?_ | refine kCb (by assumption) ?_ | refine kId ?_ | refine kIs ?_ | refine kIa ?_ | refine kIb (by assumption) ?_))⟩⟩
  case rest =>
    obtain ⟨w2, bX, sX, zX, kX, cX, rfl, rfl, rfl, hbx, hb, ⟨fX, hwn⟩, hleX⟩ := hcut
    have BX2 := hid hbx; have WX2 := hid hwn
    clear hbx hwn za zb x0 x1 x2 y0 y1 y2 C1 C2 C3
    have BA2 := hid (BA1.out.below hb); have BB2 := hid (BB1.out.below hb); have RA2 := hid (RA1.out.below hb); have RB2 := hid (RB1.out.below hb); have HW2 := hid (HW1.out.trans (hb.mono HW1.out.size))
    clear BA1 BB1 RA1 RB1 HW1 hb
    obtain ⟨za, x0, x1, x2⟩ := BA2.out
    obtain ⟨zb, y0, y1, y2⟩ := BB2.out
    have C1 : Hid (∀ W, Below w2.heap.size w2 W → Calls Tryz.prog 56 #[.agg #[.bool sb, .slice xb nb cb, .slice yb mb db]] W fun e w' => e = .returned (.agg #[.bool sb, .slice xb nb cb]) ∧ Below W.heap.size W w') := fun W _ => numer_c sb xb yb nb cb mb db W
    have C2 : Hid (∀ W, Below w2.heap.size w2 W → Calls Tryz.prog 64 #[.agg #[.bool sa, .slice xa na ca, .slice ya ma da]] W fun e w' => e = .returned (.agg #[.bool false, .slice ya ma da]) ∧ Below W.heap.size W w') := fun W _ => denom_c sa xa ya na ca ma da W
    have C3 : Hid (∀ W, Below w2.heap.size w2 W → Calls Tryz.prog 63 #[.agg #[.bool sb, .slice xb nb cb], .agg #[.bool false, .slice ya ma da]] W fun e w' => ∃ r1 p1 k1 c1 q, e = .returned (.tuple #[.agg #[.bool r1, .slice p1 k1 c1], .int .i64 0]) ∧ Below W.heap.size W w' ∧ Hid (WRes (nb + ma) W w' r1 p1 k1 c1 q ∧ wv r1 q k1 = b.num * a.den)) := fun W hW => by
      have h1 := (RB2.out.below hW).num; have h2 := (RA2.out.below hW).den
      refine (wMul_c sb false xb ya nb ma cb da fb ga W (by omega) (by omega) h1.cap.1 h2.cap.1 h1.cap.2 h2.cap.2 h1.rd h2.rd h1.lm h2.lm).mono ?_
      rintro e w' ⟨r, z, k, e', h, er, rfl, hres, hans⟩
      obtain ⟨rfl, hv⟩ := hans.ok ⟨h1.wf, h2.wf⟩
      exact ⟨r, z, k, e', h, rfl, hres.res.bel, hres, by rw [hv, h1.val, h2.val]⟩
    go_upto_region 4 with fail
    go_cut [8, 9] from 26 to 33 (fun u t wx => ∃ (wy : World) (b4 : Nat) (s : Bool) (z : Option Addr) (k c : Nat), wy = wx ∧ u = .pointer (some ⟨b4, 0, none⟩) ∧ t = .int .i64 0 ∧ FlAt (2 * L) w2 wy b4 s z k c (b.num * a.den))
    case first =>
      go_region_held3 (fun w' => w'.cell? ⟨w.heap.size, 0, none⟩ = some (.bool sa) ∧ w'.cell? ⟨w.heap.size, 1, none⟩ = some (.slice xa na ca) ∧ w'.cell? ⟨w.heap.size, 2, none⟩ = some (.slice ya ma da) ∧ w'.cell? ⟨w.heap.size + 1, 0, none⟩ = some (.bool sb) ∧ w'.cell? ⟨w.heap.size + 1, 1, none⟩ = some (.slice xb nb cb) ∧ w'.cell? ⟨w.heap.size + 1, 2, none⟩ = some (.slice yb mb db))
        (refine ⟨?_, ?_, ?_, ?_, ?_, ?_⟩ <;> repeat (with_reducible first | assumption | refine kCd ?_ | refine kCa ?_ | refine kCs (by simp only [ne_eq]; omega) ?_ | refine kCb (by assumption) ?_))
        (first
          | (go_at_call 56; with_reducible refine (C1.out _ (by repeat (with_reducible first | assumption | exact Below.refl _ _ | refine Below.drew ?_ | refine kBa ?_ | refine kBb (by assumption) ?_))).mono ?_; rintro e v3 ⟨rfl, hb3⟩; have hza := hb3.size; (try simp at hza); obtain ⟨hc3, hf3⟩ := bcell hb3; (try have q100 : w2.heap.size < v3.heap.size := by omega))
          | (go_at_call 64; with_reducible refine (C2.out _ (by repeat (with_reducible first | assumption | exact Below.refl _ _ | refine Below.drew ?_ | refine kBa ?_ | refine kBb (by assumption) ?_))).mono ?_; rintro e v4 ⟨rfl, hb4⟩; have hzb := hb4.size; (try simp at hzb); obtain ⟨hc4, hf4⟩ := bcell hb4; (try have q100 : w2.heap.size < v4.heap.size := by omega); (try have q102 : v3.heap.size < v4.heap.size := by omega))
          | (go_at_call 63; with_reducible refine (C3.out _ (by repeat (with_reducible first | assumption | exact Below.refl _ _ | refine Below.drew ?_ | refine kBa ?_ | refine kBb (by assumption) ?_))).mono ?_; rintro e v5 ⟨r1, p1, k1, c1, q, rfl, hb5, HD⟩; have hzc := hb5.size; (try simp at hzc); obtain ⟨hc5, hf5⟩ := bcell hb5; (try have q100 : w2.heap.size < v5.heap.size := by omega); (try have q102 : v3.heap.size < v5.heap.size := by omega); (try have q104 : v4.heap.size < v5.heap.size := by omega)))
      all_goals
        go_wp2_with fail
        go_meet
        refine ⟨_, _, r1, p1, k1, c1, rfl, rfl, rfl, prod_of (by assumption) (by assumption) (by repeat (with_reducible first | assumption | exact Below.refl _ _ | refine Below.drew ?_ | refine kBa ?_ | refine kBb (by assumption) ?_)) HD.out (by repeat (with_reducible first | exact Turned.refl _ _ _ | refine Turned.drew ?_ | refine Turned.alloc ?_ _ | refine Turned.set ?_ (by first | omega | (simp; done) | (simp; omega)) (by first | omega | (simp; done) | (simp; omega)) _)) ⟨(by first | omega | (simp; done) | (simp; omega)), (by repeat (with_reducible first | assumption | exact kN0 | exact kN1 | (refine kM0 ?_; (simp <;> fail)) | (refine kM1 ?_; (simp <;> fail)) | exact kI0 kN0 | exact kI0 kN1 | (refine kI0 (kM0 ?_); (simp <;> fail)) | (refine kI0 (kM1 ?_); (simp <;> fail)) | refine kCd ?_ | refine kCe ?_ | refine kCo (by decide) ?_ | refine kCs (by simp only [ne_eq]; omega) ?_ | refine kCa ?_ | refine kCb (by assumption) ?_ | refine kId ?_ | refine kIs ?_ | refine kIa ?_ | refine kIb (by assumption) ?_)), (by repeat (with_reducible first | assumption | exact kN0 | exact kN1 | (refine kM0 ?_; (simp <;> fail)) | (refine kM1 ?_; (simp <;> fail)) | exact kI0 kN0 | exact kI0 kN1 | (refine kI0 (kM0 ?_); (simp <;> fail)) | (refine kI0 (kM1 ?_); (simp <;> fail)) | refine kCd ?_ | refine kCe ?_ | refine kCo (by decide) ?_ | refine kCs (by simp only [ne_eq]; omega) ?_ | refine kCa ?_ | refine kCb (by assumption) ?_ | refine kId ?_ | refine kIs ?_ | refine kIa ?_ | refine kIb (by assumption) ?_))⟩⟩
    case rest =>
      obtain ⟨w3, bY, sY, zY, kY, cY, rfl, rfl, rfl, hby, hb, ⟨fY, hwy⟩, hleY⟩ := hcut
      have BY3 := hid hby; have WY3 := hid hwy
      clear hby hwy za zb x0 x1 x2 y0 y1 y2 C1 C2 C3
      have BX3 := hid (BX2.out.below hb); have WX3 := hid (WX2.out.below hb); have HW3 := hid (HW2.out.trans (hb.mono HW2.out.size))
      clear BX2 WX2 HW2 hb
      obtain ⟨zx, x0, x1⟩ := BX3.out
      obtain ⟨zy, y0, y1⟩ := BY3.out
      go_wp2_with fail
      refine (wCmp_c sX sY zX zY kX kY cX cY fX fY _ (by omega) (by omega) WX3.out.rd WY3.out.rd WX3.out.lm WY3.out.lm).mono ?_
      rintro e w4 ⟨cc, er, rfl, hb, hcm⟩
      have hcc : er = 0 ∧ ROrd cc a b := by
        rcases hcm with ⟨_, h1, h2⟩ | ⟨h1, _⟩
        · rw [WX3.out.val, WY3.out.val] at h2
          exact ⟨h1, rord_of h2⟩
        · exact absurd ⟨WX3.out.wf, WY3.out.wf⟩ h1
      obtain ⟨rfl, hord⟩ := hcc
      have HO := hid hord; have HW4 := hid (HW3.out.trans (hb.mono HW3.out.size))
      clear hcm hord hb
      go_wp2
      go_ret2
      exact ⟨cc, rfl, HW4.out, HO.out⟩
end Go.Proofs.YtndiiknbkjlbiaaGreatDoor
namespace Go.Proofs.YtndiiknbkjlbiaaGreatDoor
open Go.RowKit

theorem rfrac {v : Int} {s : Bool} {D : Nat} (hv : v = sg s v.natAbs) (hD : 0 < D) :
    ((v : Rat) / ((D : Int) : Rat)).num = sg s (v.natAbs / v.natAbs.gcd D) ∧ ((v : Rat) / ((D : Int) : Rat)).den = D / v.natAbs.gcd D := by
  have hG : 0 < v.natAbs.gcd D := Nat.gcd_pos_of_pos_right _ hD
  have e1 : v.natAbs / v.natAbs.gcd D * v.natAbs.gcd D = v.natAbs := Nat.div_mul_cancel (Nat.gcd_dvd_left _ _)
  have e2 : D / v.natAbs.gcd D * v.natAbs.gcd D = D := Nat.div_mul_cancel (Nat.gcd_dvd_right _ _)
  have h := rmake (s := s) (t := false) (NA := v.natAbs / v.natAbs.gcd D) (NB := D / v.natAbs.gcd D) (G := v.natAbs.gcd D) (by rw [e2]; exact hD) (by rw [e1, e2])
  rw [e1, e2, ← hv] at h
  simpa [sg] using h
theorem radd_frac (a b : Rat) : a + b = ((a.num * b.den + b.num * a.den : Int) : Rat) / (((a.den * b.den : Nat) : Int) : Rat) := by
  have ha : (a.den : Int) ≠ 0 := by have := a.den_pos; omega
  have hb : (b.den : Int) ≠ 0 := by have := b.den_pos; omega
  have h := Rat.divInt_add_divInt a.num b.num ha hb
  rw [Rat.num_divInt_den, Rat.num_divInt_den] at h
  rw [h, Rat.divInt_eq_div]
  simp
theorem rmul_frac (a b : Rat) : a * b = ((a.num * b.num : Int) : Rat) / (((a.den * b.den : Nat) : Int) : Rat) := by
  have h := Rat.divInt_mul_divInt a.num b.num (d₁ := a.den) (d₂ := b.den)
  rw [Rat.num_divInt_den, Rat.num_divInt_den] at h
  rw [h, Rat.divInt_eq_div]
  simp
theorem sub_ord {c : Int} {a b : Rat} (h : Ord c (a - b).num 0) : ROrd c a b := by
  rcases h with ⟨h1, h2⟩ | ⟨h1, h2⟩ | ⟨h1, h2⟩
  · left; refine ⟨h1, ?_⟩
    have : a - b < 0 := (Rat.lt_iff _ _).2 (by simp; exact h2)
    grind
  · right; left; refine ⟨h1, ?_⟩
    have : a - b = 0 := Rat.num_eq_zero.1 h2
    grind
  · right; right; refine ⟨h1, ?_⟩
    have : 0 < a - b := (Rat.lt_iff _ _).2 (by simp; exact h2)
    grind
theorem qbox2 {w : World} (a0 a1 a2 b0 b1 b2 : Value) (t : TypeId) :
    Bx3 (((w.alloc (.cells #[a0, a1, a2] t)).alloc (.cells #[b0, b1, b2] t)).alloc (.cells #[.bool false, .slice none 0 0, .slice none 0 0] t)) w.heap.size a0 a1 a2 ∧ Bx3 (((w.alloc (.cells #[a0, a1, a2] t)).alloc (.cells #[b0, b1, b2] t)).alloc (.cells #[.bool false, .slice none 0 0, .slice none 0 0] t)) (w.heap.size + 1) b0 b1 b2 ∧ Ob (((w.alloc (.cells #[a0, a1, a2] t)).alloc (.cells #[b0, b1, b2] t)).alloc (.cells #[.bool false, .slice none 0 0, .slice none 0 0] t)) (w.heap.size + 1 + 1) ∧ Below w.heap.size w (((w.alloc (.cells #[a0, a1, a2] t)).alloc (.cells #[b0, b1, b2] t)).alloc (.cells #[.bool false, .slice none 0 0, .slice none 0 0] t)) := by
  have h1 := bx3_at w a0 a1 a2 t
  have h2 := bx3_at (w.alloc (.cells #[a0, a1, a2] t)) b0 b1 b2 t
  rw [size_alloc1] at h2
  have h3 := ob_new ((w.alloc (.cells #[a0, a1, a2] t)).alloc (.cells #[b0, b1, b2] t)) t
  rw [size_alloc1, size_alloc1] at h3
  exact ⟨(h1.alloc _).alloc _, h2.alloc _, h3, below_alloc (below_alloc (below_alloc (Below.refl w.heap.size w) _) _) _⟩
theorem mkZn_c {w : World} {z : Option Addr} {k c : Nat} {d : Nat → Int} {V : Nat} (h : Dn w z k d V) (hk : k ≤ 100000) :
    Calls Tryz.prog 69 #[.bool false, .slice z k c] w fun e w' => ∃ r, e = .returned (.agg #[.bool r, .slice z k c]) ∧ Below w.heap.size w w' ∧ Hid (Zn w' r z k d (V : Int)) :=
  (mkZ_c hk).mono (fun _ _ ⟨r, h1, h2, h3⟩ => ⟨r, h1, h2, Zn.of (s := false) (h.below h2) h3⟩)
/-- Mk, on a whole number over one above 0. -/
theorem mkQn_c {w : World} {s : Bool} {x : Option Addr} {n c : Nat} {d : Nat → Int} {v : Int} {y : Option Addr} {m e : Nat} {g : Nat → Int} {D : Nat} (ha : Zn w s x n d v) (hb : Dn w y m g D) (hn : n ≤ 4096) (hm : m ≤ 4096) (hD : 0 < D) :
    Calls Tryz.prog 73 #[.agg #[.bool s, .slice x n c], .slice y m e] w fun en w' => ∃ s' x' n' c1 d' y' m' c2 g', en = .returned (.agg #[.bool s', .slice x' n' c1, .slice y' m' c2]) ∧ Below w.heap.size w w' ∧ Hid (n' ≤ n + 2 ∧ m' ≤ m + 2 ∧ Qn w' s' x' n' d' y' m' g' ((v : Rat) / ((D : Int) : Rat))) := by
  refine (mkQ_c ha.dn hb ha.pos hn hm hD).mono ?_
  rintro en w' ⟨r, z, k, c', d', z2, k2, c2, d2, rfl, h2, h3, h4, h5, h6, h7⟩
  obtain ⟨e1, e2⟩ := rfrac ha.sgn hD
  have hz := Zn.of h6 h5
  rw [← e1] at hz
  rw [← e2] at h7
  exact ⟨r, z, k, c', d', z2, k2, c2, d2, rfl, h2, h3, h4, hz, h7⟩

set_option maxRecDepth 100000 in
set_option maxHeartbeats 16000000 in
theorem qAdd_c {w : World} {sa : Bool} {xa : Option Addr} {na ca : Nat} {da : Nat → Int} {ya : Option Addr} {ma ea : Nat} {ga : Nat → Int} {qa : Rat} {sb : Bool} {xb : Option Addr} {nb cb : Nat} {db : Nat → Int} {yb : Option Addr} {mb eb : Nat} {gb : Nat → Int} {qb : Rat} (ha : Qn w sa xa na da ya ma ga qa) (hb : Qn w sb xb nb db yb mb gb qb) (hna : na ≤ 1000) (hma : ma ≤ 1000) (hnb : nb ≤ 1000) (hmb : mb ≤ 1000) :
    Calls Tryz.prog 48 #[.agg #[.bool sa, .slice xa na ca, .slice ya ma ea], .agg #[.bool sb, .slice xb nb cb, .slice yb mb eb]] w fun e w' => QAns (na + ma + nb + mb + 3) w w' e (qa + qb) := by
  obtain ⟨h1, h2, h3, h4⟩ := qbox2 (w := w) (.bool sa) (.slice xa na ca) (.slice ya ma ea) (.bool sb) (.slice xb nb cb) (.slice yb mb eb) 72
  have h5 := ((ha.alloc (.cells #[.bool sa, .slice xa na ca, .slice ya ma ea] 72)).alloc (.cells #[.bool sb, .slice xb nb cb, .slice yb mb eb] 72)).alloc (.cells #[.bool false, .slice none 0 0, .slice none 0 0] 72)
  have h6 := ((hb.alloc (.cells #[.bool sa, .slice xa na ca, .slice ya ma ea] 72)).alloc (.cells #[.bool sb, .slice xb nb cb, .slice yb mb eb] 72)).alloc (.cells #[.bool false, .slice none 0 0, .slice none 0 0] 72)
  clear ha hb
  go_enter Tryz.func48, Tryz.ntmps48
  go_wp2_with fail
  generalize ((w.alloc (.cells #[.bool sa, .slice xa na ca, .slice ya ma ea] 72)).alloc (.cells #[.bool sb, .slice xb nb cb, .slice yb mb eb] 72)).alloc (.cells #[.bool false, .slice none 0 0, .slice none 0 0] 72) = w1 at *
  have HA := hid h5; have HB := hid h6; have OB := hid h3; have HW := hid h4
  obtain ⟨za, a0, a1, a2⟩ := h1
  obtain ⟨zb, b0, b1, b2⟩ := h2
  obtain ⟨hz, z0, z1, z2, zf⟩ := h3
  clear h4 h5 h6
  have HD := hid (show 0 < qa.den * qb.den from Nat.mul_pos qa.den_pos qb.den_pos)
  have C1 : Hid (∀ W, Below w1.heap.size w1 W → Calls Tryz.prog 69 #[.bool false, .slice yb mb eb] W fun e w' => ∃ r, e = .returned (.agg #[.bool r, .slice yb mb eb]) ∧ Below W.heap.size W w' ∧ Hid (Zn w' r yb mb gb (qb.den : Int))) := fun W hW => mkZn_c (HB.out.den.below hW) (by omega)
  have C2 : Hid (∀ (W : World) (r : Bool), Below w1.heap.size w1 W → Zn W r yb mb gb (qb.den : Int) → Calls Tryz.prog 87 #[.agg #[.bool sa, .slice xa na ca], .agg #[.bool r, .slice yb mb eb]] W fun e w' => ∃ s x n c d, e = .returned (.agg #[.bool s, .slice x n c]) ∧ Below W.heap.size W w' ∧ Hid (n ≤ na + mb ∧ Zn w' s x n d (qa.num * qb.den))) := fun W r hW h => zMulE_c (HA.out.num.below hW) h (by omega) (by omega)
  have C3 : Hid (∀ W, Below w1.heap.size w1 W → Calls Tryz.prog 69 #[.bool false, .slice ya ma ea] W fun e w' => ∃ r, e = .returned (.agg #[.bool r, .slice ya ma ea]) ∧ Below W.heap.size W w' ∧ Hid (Zn w' r ya ma ga (qa.den : Int))) := fun W hW => mkZn_c (HA.out.den.below hW) (by omega)
  have C4 : Hid (∀ (W : World) (r : Bool), Below w1.heap.size w1 W → Zn W r ya ma ga (qa.den : Int) → Calls Tryz.prog 87 #[.agg #[.bool sb, .slice xb nb cb], .agg #[.bool r, .slice ya ma ea]] W fun e w' => ∃ s x n c d, e = .returned (.agg #[.bool s, .slice x n c]) ∧ Below W.heap.size W w' ∧ Hid (n ≤ nb + ma ∧ Zn w' s x n d (qb.num * qa.den))) := fun W r hW h => zMulE_c (HB.out.num.below hW) h (by omega) (by omega)
  have C5 : Hid (∀ (W : World) (s5 : Bool) (x5 : Option Addr) (n5 c5 : Nat) (d5 : Nat → Int) (s6 : Bool) (x6 : Option Addr) (n6 c6 : Nat) (d6 : Nat → Int), n5 ≤ na + mb → n6 ≤ nb + ma → Zn W s5 x5 n5 d5 (qa.num * qb.den) → Zn W s6 x6 n6 d6 (qb.num * qa.den) → Calls Tryz.prog 86 #[.agg #[.bool s5, .slice x5 n5 c5], .agg #[.bool s6, .slice x6 n6 c6]] W fun e w' => ∃ s x n c d, e = .returned (.agg #[.bool s, .slice x n c]) ∧ Below W.heap.size W w' ∧ Hid (n ≤ na + ma + nb + mb + 1 ∧ Zn w' s x n d (qa.num * qb.den + qb.num * qa.den))) := fun W s5 x5 n5 c5 d5 s6 x6 n6 c6 d6 h1 h2 h3 h4 => (zAdd_c h3 h4 (by omega) (by omega)).mono (fun _ _ ⟨s, x, n, c, d, h1, h2, h3, h4⟩ => ⟨s, x, n, c, d, h1, h2, by omega, h4⟩)
  have C6 : Hid (∀ W, Below w1.heap.size w1 W → Calls Tryz.prog 88 #[.slice ya ma ea, .slice yb mb eb] W fun e w' => ∃ z k c' q, e = .returned (.slice z k c') ∧ Below W.heap.size W w' ∧ Hid (k ≤ ma + mb ∧ Dn w' z k q (qa.den * qb.den))) := fun W hW => dMul_c (HA.out.den.below hW) (HB.out.den.below hW) (by omega) (by omega)
  have C7 : Hid (∀ (W : World) (s : Bool) (x : Option Addr) (n c : Nat) (d : Nat → Int) (y : Option Addr) (m e : Nat) (g : Nat → Int), n ≤ na + ma + nb + mb + 1 → m ≤ ma + mb → Zn W s x n d (qa.num * qb.den + qb.num * qa.den) → Dn W y m g (qa.den * qb.den) → Calls Tryz.prog 73 #[.agg #[.bool s, .slice x n c], .slice y m e] W fun en w' => ∃ s' x' n' c1 d' y' m' c2 g', en = .returned (.agg #[.bool s', .slice x' n' c1, .slice y' m' c2]) ∧ Below W.heap.size W w' ∧ Hid (n' ≤ na + ma + nb + mb + 3 ∧ m' ≤ na + ma + nb + mb + 3 ∧ Qn w' s' x' n' d' y' m' g' (qa + qb))) := fun W s x n c d y m e g h1 h2 h3 h4 => (mkQn_c h3 h4 (by omega) (by omega) HD.out).mono (fun _ _ ⟨s', x', n', c1, d', y', m', c2, g', k1, k2, k3, k4, k5⟩ => ⟨s', x', n', c1, d', y', m', c2, g', k1, k2, by omega, by omega, by rw [radd_frac]; exact k5⟩)
  go_region_held3 (fun w' => w'.cell? ⟨w.heap.size, 0, none⟩ = some (.bool sa) ∧ w'.cell? ⟨w.heap.size, 1, none⟩ = some (.slice xa na ca) ∧ w'.cell? ⟨w.heap.size, 2, none⟩ = some (.slice ya ma ea) ∧ w'.cell? ⟨w.heap.size + 1, 0, none⟩ = some (.bool sb) ∧ w'.cell? ⟨w.heap.size + 1, 1, none⟩ = some (.slice xb nb cb) ∧ w'.cell? ⟨w.heap.size + 1, 2, none⟩ = some (.slice yb mb eb) ∧ (w'.cell? ⟨w.heap.size + 1 + 1, 0, none⟩).isSome = true ∧ (w'.cell? ⟨w.heap.size + 1 + 1, 1, none⟩).isSome = true ∧ (w'.cell? ⟨w.heap.size + 1 + 1, 2, none⟩).isSome = true ∧ w'.frozen? ⟨w.heap.size + 1 + 1, 0, none⟩ = false ∧ w'.frozen? ⟨w.heap.size + 1 + 1, 1, none⟩ = false ∧ w'.frozen? ⟨w.heap.size + 1 + 1, 2, none⟩ = false)
    (refine ⟨?_, ?_, ?_, ?_, ?_, ?_, ?_, ?_, ?_, ?_, ?_, ?_⟩ <;> repeat (with_reducible first | assumption | exact zf _ | exact tf _ | exact uf _ | exact vf _ | exact rf _ | exact of _ | exact kf _ | exact pf _ | exact kI0 z0 | exact kI0 z1 | exact kI0 z2 | exact kI0 t0 | exact kI0 t1 | exact kI0 t2 | exact kI0 u0 | exact kI0 u1 | exact kI0 u2 | exact kI0 v0 | exact kI0 v1 | exact kI0 v2 | exact kI0 r0 | exact kI0 r1 | exact kI0 r2 | exact kI0 o0 | exact kI0 o1 | exact kI0 o2 | exact kI0 k0 | exact kI0 k1 | exact kI0 k2 | exact kI0 p0 | exact kI0 p1 | exact kI0 p2 | refine kCd ?_ | refine kId ?_ | refine kFd ?_ | refine kCs (by simp only [ne_eq]; omega) ?_ | refine kIs ?_ | refine kFs ?_ | refine kCb (by assumption) ?_ | refine kIb (by assumption) ?_))
    (first
      | (go_at_call 69; with_reducible refine (C1.out _ (by repeat (with_reducible first | assumption | exact Below.refl _ _ | refine Below.drew ?_ | refine kBb (by assumption) ?_))).mono ?_; rintro e v1 ⟨r1, rfl, hv1, H1⟩; have Tt : Ob v1 (w.heap.size + 1 + 1) := (by repeat (with_reducible first | exact OB.out | exact Tt | exact Tu | exact Tv | exact Tr | exact To | exact Tk | exact Tp | refine Ob.drew ?_ | refine kOb (by assumption) ?_)); obtain ⟨_, t0, t1, t2, tf⟩ := id Tt)
      | (go_at_call 87; with_reducible refine (C2.out _ r1 (by repeat (with_reducible first | assumption | exact Below.refl _ _ | refine Below.drew ?_ | refine kBb (by assumption) ?_)) (by repeat (with_reducible first | exact H1.out | refine kZd ?_ | refine kZb (by assumption) ?_))).mono ?_; rintro e v2 ⟨s2, x2, n2, c2, d2, rfl, hv2, H2⟩; have Tu : Ob v2 (w.heap.size + 1 + 1) := (by repeat (with_reducible first | exact OB.out | exact Tt | exact Tu | exact Tv | exact Tr | exact To | exact Tk | exact Tp | refine Ob.drew ?_ | refine kOb (by assumption) ?_)); obtain ⟨_, u0, u1, u2, uf⟩ := id Tu)
      | (go_at_call 69; with_reducible refine (C3.out _ (by repeat (with_reducible first | assumption | exact Below.refl _ _ | refine Below.drew ?_ | refine kBb (by assumption) ?_))).mono ?_; rintro e v3 ⟨r3, rfl, hv3, H3⟩; have Tv : Ob v3 (w.heap.size + 1 + 1) := (by repeat (with_reducible first | exact OB.out | exact Tt | exact Tu | exact Tv | exact Tr | exact To | exact Tk | exact Tp | refine Ob.drew ?_ | refine kOb (by assumption) ?_)); obtain ⟨_, v0, v1, v2, vf⟩ := id Tv)
      | (go_at_call 87; with_reducible refine (C4.out _ r3 (by repeat (with_reducible first | assumption | exact Below.refl _ _ | refine Below.drew ?_ | refine kBb (by assumption) ?_)) (by repeat (with_reducible first | exact H3.out | refine kZd ?_ | refine kZb (by assumption) ?_))).mono ?_; rintro e v4 ⟨s4, x4, n4, c4, d4, rfl, hv4, H4⟩; have Tr : Ob v4 (w.heap.size + 1 + 1) := (by repeat (with_reducible first | exact OB.out | exact Tt | exact Tu | exact Tv | exact Tr | exact To | exact Tk | exact Tp | refine Ob.drew ?_ | refine kOb (by assumption) ?_)); obtain ⟨_, r0, r1, r2, rf⟩ := id Tr)
      | (go_at_call 86; with_reducible refine (C5.out _ s2 x2 n2 c2 d2 s4 x4 n4 c4 d4 H2.out.1 H4.out.1 (by repeat (with_reducible first | exact H2.out.2 | refine kZd ?_ | refine kZb (by assumption) ?_)) (by repeat (with_reducible first | exact H4.out.2 | refine kZd ?_ | refine kZb (by assumption) ?_))).mono ?_; rintro e v5 ⟨s5, x5, n5, c5, d5, rfl, hv5, H5⟩; have To : Ob v5 (w.heap.size + 1 + 1) := (by repeat (with_reducible first | exact OB.out | exact Tt | exact Tu | exact Tv | exact Tr | exact To | exact Tk | exact Tp | refine Ob.drew ?_ | refine kOb (by assumption) ?_)); obtain ⟨_, o0, o1, o2, of⟩ := id To)
      | (go_at_call 88; with_reducible refine (C6.out _ (by repeat (with_reducible first | assumption | exact Below.refl _ _ | refine Below.drew ?_ | refine kBb (by assumption) ?_))).mono ?_; rintro e v6 ⟨z6, k6, c6, d6, rfl, hv6, H6⟩; have Tk : Ob v6 (w.heap.size + 1 + 1) := (by repeat (with_reducible first | exact OB.out | exact Tt | exact Tu | exact Tv | exact Tr | exact To | exact Tk | exact Tp | refine Ob.drew ?_ | refine kOb (by assumption) ?_)); obtain ⟨_, k0, k1, k2, kf⟩ := id Tk)
      | (go_at_call 73; with_reducible refine (C7.out _ s5 x5 n5 c5 d5 z6 k6 c6 d6 H5.out.1 H6.out.1 (by repeat (with_reducible first | exact H5.out.2 | refine kZd ?_ | refine kZb (by assumption) ?_)) (by repeat (with_reducible first | exact H6.out.2 | refine Dn.drew ?_ | refine kDb (by assumption) ?_))).mono ?_; rintro e v8 ⟨s8, x8, n8, c8, d8, y8, m8, e8, g8, rfl, hv8, H8⟩; have Tp : Ob v8 (w.heap.size + 1 + 1) := (by repeat (with_reducible first | exact OB.out | exact Tt | exact Tu | exact Tv | exact Tr | exact To | exact Tk | exact Tp | refine Ob.drew ?_ | refine kOb (by assumption) ?_)); obtain ⟨_, p0, p1, p2, pf⟩ := id Tp))
  all_goals
    have hb : Below w1.heap.size w1 v8 := (by repeat (with_reducible first | assumption | exact Below.refl _ _ | refine Below.drew ?_ | refine kBb (by assumption) ?_))
    go_wp2
    exact bodyPost_ret (v := .agg #[.bool s8, .slice x8 n8 c8, .slice y8 m8 e8]) (by simp [results, Tryz.results48, go_sem, p0, p1, p2]) rfl ⟨s8, x8, n8, c8, d8, y8, m8, e8, g8, rfl, below_st (HW.out.trans (hb.mono HW.out.size)) (by omega), H8.out.1, H8.out.2.1, Tp.qn H8.out.2.2⟩

set_option maxRecDepth 100000 in
set_option maxHeartbeats 16000000 in
theorem qSub_c {w : World} {sa : Bool} {xa : Option Addr} {na ca : Nat} {da : Nat → Int} {ya : Option Addr} {ma ea : Nat} {ga : Nat → Int} {qa : Rat} {sb : Bool} {xb : Option Addr} {nb cb : Nat} {db : Nat → Int} {yb : Option Addr} {mb eb : Nat} {gb : Nat → Int} {qb : Rat} (ha : Qn w sa xa na da ya ma ga qa) (hb : Qn w sb xb nb db yb mb gb qb) (hna : na ≤ 1000) (hma : ma ≤ 1000) (hnb : nb ≤ 1000) (hmb : mb ≤ 1000) :
    Calls Tryz.prog 49 #[.agg #[.bool sa, .slice xa na ca, .slice ya ma ea], .agg #[.bool sb, .slice xb nb cb, .slice yb mb eb]] w fun e w' => QAns (na + ma + nb + mb + 3) w w' e (qa - qb) := by
  obtain ⟨h1, h2, h3, h4⟩ := qbox2 (w := w) (.bool sa) (.slice xa na ca) (.slice ya ma ea) (.bool sb) (.slice xb nb cb) (.slice yb mb eb) 72
  have h5 := ((ha.alloc (.cells #[.bool sa, .slice xa na ca, .slice ya ma ea] 72)).alloc (.cells #[.bool sb, .slice xb nb cb, .slice yb mb eb] 72)).alloc (.cells #[.bool false, .slice none 0 0, .slice none 0 0] 72)
  have h6 := ((hb.alloc (.cells #[.bool sa, .slice xa na ca, .slice ya ma ea] 72)).alloc (.cells #[.bool sb, .slice xb nb cb, .slice yb mb eb] 72)).alloc (.cells #[.bool false, .slice none 0 0, .slice none 0 0] 72)
  clear ha hb
  go_enter Tryz.func49, Tryz.ntmps49
  go_wp2_with fail
  generalize ((w.alloc (.cells #[.bool sa, .slice xa na ca, .slice ya ma ea] 72)).alloc (.cells #[.bool sb, .slice xb nb cb, .slice yb mb eb] 72)).alloc (.cells #[.bool false, .slice none 0 0, .slice none 0 0] 72) = w1 at *
  have HA := hid h5; have HB := hid h6; have OB := hid h3; have HW := hid h4
  obtain ⟨za, a0, a1, a2⟩ := h1
  obtain ⟨zb, b0, b1, b2⟩ := h2
  obtain ⟨hz, z0, z1, z2, zf⟩ := h3
  clear h4 h5 h6
  have C1 : Hid (∀ W, Below w1.heap.size w1 W → Calls Tryz.prog 54 #[.agg #[.bool sb, .slice xb nb cb, .slice yb mb eb]] W fun en w' => ∃ s' c', en = .returned (.agg #[.bool s', .slice xb nb c', .slice yb mb eb]) ∧ Below W.heap.size W w' ∧ Hid (Qn w' s' xb nb db yb mb gb (-qb))) := fun W hW => qNeg_c (HB.out.below hW) (by omega)
  have C2 : Hid (∀ (W : World) (s : Bool) (c : Nat), Below w1.heap.size w1 W → Qn W s xb nb db yb mb gb (-qb) → Calls Tryz.prog 48 #[.agg #[.bool sa, .slice xa na ca, .slice ya ma ea], .agg #[.bool s, .slice xb nb c, .slice yb mb eb]] W fun en w' => ∃ s' x' n' c1 d' y' m' c2 g', en = .returned (.agg #[.bool s', .slice x' n' c1, .slice y' m' c2]) ∧ Below W.heap.size W w' ∧ Hid (n' ≤ na + ma + nb + mb + 3 ∧ m' ≤ na + ma + nb + mb + 3 ∧ Qn w' s' x' n' d' y' m' g' (qa - qb))) := fun W s c hW h => (qAdd_c (HA.out.below hW) h hna hma hnb hmb).mono (fun _ _ ⟨s', x', n', c1, d', y', m', c2, g', k1, k2, k3, k4, k5⟩ => ⟨s', x', n', c1, d', y', m', c2, g', k1, k2, k3, k4, by rw [Rat.sub_eq_add_neg]; exact k5⟩)
  go_region_held3 (fun w' => w'.cell? ⟨w.heap.size, 0, none⟩ = some (.bool sa) ∧ w'.cell? ⟨w.heap.size, 1, none⟩ = some (.slice xa na ca) ∧ w'.cell? ⟨w.heap.size, 2, none⟩ = some (.slice ya ma ea) ∧ w'.cell? ⟨w.heap.size + 1, 0, none⟩ = some (.bool sb) ∧ w'.cell? ⟨w.heap.size + 1, 1, none⟩ = some (.slice xb nb cb) ∧ w'.cell? ⟨w.heap.size + 1, 2, none⟩ = some (.slice yb mb eb) ∧ (w'.cell? ⟨w.heap.size + 1 + 1, 0, none⟩).isSome = true ∧ (w'.cell? ⟨w.heap.size + 1 + 1, 1, none⟩).isSome = true ∧ (w'.cell? ⟨w.heap.size + 1 + 1, 2, none⟩).isSome = true ∧ w'.frozen? ⟨w.heap.size + 1 + 1, 0, none⟩ = false ∧ w'.frozen? ⟨w.heap.size + 1 + 1, 1, none⟩ = false ∧ w'.frozen? ⟨w.heap.size + 1 + 1, 2, none⟩ = false)
    (refine ⟨?_, ?_, ?_, ?_, ?_, ?_, ?_, ?_, ?_, ?_, ?_, ?_⟩ <;> repeat (with_reducible first | assumption | exact zf _ | exact tf _ | exact pf _ | exact kI0 z0 | exact kI0 z1 | exact kI0 z2 | exact kI0 t0 | exact kI0 t1 | exact kI0 t2 | exact kI0 p0 | exact kI0 p1 | exact kI0 p2 | refine kCd ?_ | refine kId ?_ | refine kFd ?_ | refine kCs (by simp only [ne_eq]; omega) ?_ | refine kIs ?_ | refine kFs ?_ | refine kCb (by assumption) ?_ | refine kIb (by assumption) ?_))
    (first
      | (go_at_call 54; with_reducible refine (C1.out _ (by repeat (with_reducible first | assumption | exact Below.refl _ _ | refine Below.drew ?_ | refine kBb (by assumption) ?_))).mono ?_; rintro e v1 ⟨r1, k1, rfl, hv1, H1⟩; have Tt : Ob v1 (w.heap.size + 1 + 1) := (by repeat (with_reducible first | exact OB.out | exact Tt | exact Tu | exact Tv | exact Tr | exact To | exact Tk | exact Tp | refine Ob.drew ?_ | refine kOb (by assumption) ?_)); obtain ⟨_, t0, t1, t2, tf⟩ := id Tt)
      | (go_at_call 48; with_reducible refine (C2.out _ r1 k1 (by repeat (with_reducible first | assumption | exact Below.refl _ _ | refine Below.drew ?_ | refine kBb (by assumption) ?_)) (by repeat (with_reducible first | exact H1.out | refine kQd ?_ | refine kQb (by assumption) ?_))).mono ?_; rintro e v8 ⟨s8, x8, n8, c8, d8, y8, m8, e8, g8, rfl, hv8, H8⟩; have Tp : Ob v8 (w.heap.size + 1 + 1) := (by repeat (with_reducible first | exact OB.out | exact Tt | exact Tu | exact Tv | exact Tr | exact To | exact Tk | exact Tp | refine Ob.drew ?_ | refine kOb (by assumption) ?_)); obtain ⟨_, p0, p1, p2, pf⟩ := id Tp))
  all_goals
    have hb : Below w1.heap.size w1 v8 := (by repeat (with_reducible first | assumption | exact Below.refl _ _ | refine Below.drew ?_ | refine kBb (by assumption) ?_))
    go_wp2
    exact bodyPost_ret (v := .agg #[.bool s8, .slice x8 n8 c8, .slice y8 m8 e8]) (by simp [results, Tryz.results49, go_sem, p0, p1, p2]) rfl ⟨s8, x8, n8, c8, d8, y8, m8, e8, g8, rfl, below_st (HW.out.trans (hb.mono HW.out.size)) (by omega), H8.out.1, H8.out.2.1, Tp.qn H8.out.2.2⟩

set_option maxRecDepth 100000 in
set_option maxHeartbeats 4000000 in
theorem qCmp_c {w : World} {sa : Bool} {xa : Option Addr} {na ca : Nat} {da : Nat → Int} {ya : Option Addr} {ma ea : Nat} {ga : Nat → Int} {qa : Rat} {sb : Bool} {xb : Option Addr} {nb cb : Nat} {db : Nat → Int} {yb : Option Addr} {mb eb : Nat} {gb : Nat → Int} {qb : Rat} (ha : Qn w sa xa na da ya ma ga qa) (hb : Qn w sb xb nb db yb mb gb qb) (hna : na ≤ 1000) (hma : ma ≤ 1000) (hnb : nb ≤ 1000) (hmb : mb ≤ 1000) :
    Calls Tryz.prog 66 #[.agg #[.bool sa, .slice xa na ca, .slice ya ma ea], .agg #[.bool sb, .slice xb nb cb, .slice yb mb eb]] w fun e w' => ∃ c, e = .returned (.int .i64 c) ∧ Below w.heap.size w w' ∧ ROrd c qa qb := by
  have h1 := bx3_at w (.bool sa) (.slice xa na ca) (.slice ya ma ea) 72
  have h2 := bx3_at (w.alloc (.cells #[.bool sa, .slice xa na ca, .slice ya ma ea] 72)) (.bool sb) (.slice xb nb cb) (.slice yb mb eb) 72
  rw [size_alloc1] at h2
  have h1 := h1.alloc (.cells #[.bool sb, .slice xb nb cb, .slice yb mb eb] 72)
  have h4 := below_alloc (below_alloc (Below.refl w.heap.size w) (.cells #[.bool sa, .slice xa na ca, .slice ya ma ea] 72)) (.cells #[.bool sb, .slice xb nb cb, .slice yb mb eb] 72)
  have h5 := (ha.alloc (.cells #[.bool sa, .slice xa na ca, .slice ya ma ea] 72)).alloc (.cells #[.bool sb, .slice xb nb cb, .slice yb mb eb] 72)
  have h6 := (hb.alloc (.cells #[.bool sa, .slice xa na ca, .slice ya ma ea] 72)).alloc (.cells #[.bool sb, .slice xb nb cb, .slice yb mb eb] 72)
  clear ha hb
  go_enter Tryz.func66, Tryz.ntmps66
  go_wp2_with fail
  generalize (w.alloc (.cells #[.bool sa, .slice xa na ca, .slice ya ma ea] 72)).alloc (.cells #[.bool sb, .slice xb nb cb, .slice yb mb eb] 72) = w1 at *
  refine (qSub_c h5 h6 hna hma hnb hmb).mono ?_
  rintro en w2 ⟨s, x, n, c, d, y, m, c', g, rfl, hb, hl1, hl2, hq⟩
  have HQ := hid hq; have HB := hid (h4.trans (hb.mono h4.size))
  clear h1 h2 h4 h5 h6 hb hq
  go_wp2_with fail
  refine (qSign_c HQ.out (by omega)).mono ?_
  rintro en w3 ⟨cc, rfl, hb, ho⟩
  have HO := hid ho; have HB3 := hid (HB.out.trans (hb.mono HB.out.size))
  clear hb ho
  go_wp2
  go_ret
  exact ⟨cc, rfl, HB3.out, sub_ord HO.out⟩
end Go.Proofs.YtndiiknbkjlbiaaGreatDoor
namespace Go.Proofs.YtndiiknbkjlbiaaGreatDoor
open Go.RowKit

/-- What Sign answers. -/
def SG (c er : Int) (p : Bool) (v : Int) : Prop := p = true ∧ er = 0 ∧ Ord c v 0 ∨ p = false ∧ er = 3 ∧ c = 0
theorem rf_wf {s f n g m} (h : rfB s f n g m = true) : wfB s f n = true := by
  simp only [rfB, Bool.and_eq_true] at h
  exact h.1

set_option maxRecDepth 100000 in
set_option maxHeartbeats 4000000 in
theorem rSign_g {w : World} {s : Bool} {x : Option Addr} {n c : Nat} {f : Nat → Int} {y : Option Addr} {m e : Nat} {g : Nat → Int} (h : Rw w x n c f y m e g) (hn : n ≤ 1000) (hm : m ≤ 1000) :
    Calls Tryz.prog 21 #[.agg #[.bool s, .slice x n c, .slice y m e]] w fun en w' => ∃ c er, en = .returned (.tuple #[.int .i64 c, .int .i64 er]) ∧ Below w.heap.size w w' ∧ SG c er (rfB s f n g m) (wv s f n) := by
  have h1 := bx3_at w (.bool s) (.slice x n c) (.slice y m e) 24
  have h3 := below_alloc (Below.refl w.heap.size w) (.cells #[.bool s, .slice x n c, .slice y m e] 24)
  have h4 := h.below h3
  clear h
  go_enter Tryz.func21, Tryz.ntmps21
  go_wp2_with fail
  generalize w.alloc (.cells #[.bool s, .slice x n c, .slice y m e] 24) = w1 at *
  have HR := hid h4; have HW := hid h3; have BX := hid h1
  clear h1 h3 h4
  have c1 := rForm_c (s := s) HR.out (by omega) (by omega)
  cases hp : rfB s f n g m
  · rw [hp] at c1
    refine c1.mono ?_
    rintro en w2 ⟨rfl, hb⟩
    have HB := hid (HW.out.trans (hb.mono HW.out.size))
    clear c1 hb
    go_wp2
    go_ret2
    exact ⟨0, 3, rfl, HB.out, .inr ⟨hp, rfl, rfl⟩⟩
  · rw [hp] at c1
    refine c1.mono ?_
    rintro en w2 ⟨rfl, hb⟩
    have HB2 := hid hb; have HB := hid (HW.out.trans (hb.mono HW.out.size)); have HR2 := hid (HR.out.below hb); have HP := hid hp
    clear c1 hb hp
    obtain ⟨z, x0, x1, x2⟩ := BX.out.below HB2.out
    have hwf := rf_wf HP.out
    have h0 := vf_nonneg HR.out.lx
    cases s
    · by_cases hn0 : n = 0
      · subst hn0
        go_wp2
        go_ret2
        exact ⟨0, 0, rfl, HB.out, .inl ⟨HP.out, rfl, .inr (.inl ⟨rfl, by rw [wv_false]; rfl⟩)⟩⟩
      · have hnd : ((n : Int) == 0) = false := by simp; omega
        have HV := hid (vf_pos HR.out.lx (fm_of_wfB hwf) (show 0 < n by omega))
        clear hwf h0
        go_wp2
        go_ret2
        exact ⟨1, 0, rfl, HB.out, .inl ⟨HP.out, rfl, .inr (.inr ⟨rfl, by rw [wv_false]; exact HV.out⟩)⟩⟩
    · have hnz : 0 < n := ((wfB_iff _ _ _).1 hwf).2 rfl
      have HV := hid (vf_pos HR.out.lx (fm_of_wfB hwf) hnz)
      clear hwf h0
      go_wp2
      go_ret2
      exact ⟨-1, 0, rfl, HB.out, .inl ⟨HP.out, rfl, .inl ⟨rfl, by have := HV.out; rw [wv_true]; omega⟩⟩⟩

set_option maxRecDepth 100000 in
set_option maxHeartbeats 4000000 in
theorem docSign_g {w : World} {s : Bool} {x : Option Addr} {n c : Nat} {f : Nat → Int} {y : Option Addr} {m e : Nat} {g : Nat → Int} (h : Rw w x n c f y m e g) (hn : n ≤ 1000) (hm : m ≤ 1000) :
    Calls Tryz.prog 22 #[.agg #[.bool s, .slice x n c, .slice y m e]] w fun en w' => ∃ c er, en = .returned (.tuple #[.int .i64 c, .int .i64 er]) ∧ Below w.heap.size w w' ∧ SG c er (rfB s f n g m) (wv s f n) := by
  have h1 := bx3_at w (.bool s) (.slice x n c) (.slice y m e) 24
  have h3 := below_alloc (Below.refl w.heap.size w) (.cells #[.bool s, .slice x n c, .slice y m e] 24)
  have h4 := h.below h3
  clear h
  go_enter Tryz.func22, Tryz.ntmps22
  go_wp2_with fail
  generalize w.alloc (.cells #[.bool s, .slice x n c, .slice y m e] 24) = w1 at *
  have HR := hid h4; have HW := hid h3; have BX := hid h1
  clear h1 h3 h4
  have c1 := qForm_c (s := s) HR.out (by omega) (by omega)
  cases hp : rfB s f n g m
  · rw [hp] at c1
    refine c1.mono ?_
    rintro en w2 ⟨rfl, hb⟩
    have HB := hid (HW.out.trans (hb.mono HW.out.size))
    clear c1 hb
    go_wp2
    go_ret2
    exact ⟨0, 3, rfl, HB.out, .inr ⟨hp, rfl, rfl⟩⟩
  · rw [hp] at c1
    refine c1.mono ?_
    rintro en w2 ⟨rfl, hb⟩
    have HB2 := hid hb; have HB := hid (HW.out.trans (hb.mono HW.out.size)); have HR2 := hid (HR.out.below hb); have HP := hid hp
    clear c1 hb hp
    obtain ⟨z, x0, x1, x2⟩ := BX.out.below HB2.out
    obtain ⟨q, hq⟩ := HR2.out.rn HP.out (L := 1000) hn hm
    have HQ := hid hq
    clear hq
    go_wp2_with fail
    refine (qFrom_c HQ.out (by omega)).mono ?_
    rintro en w3 ⟨s3, x3, n3, c3, d3, y3, m3, e3, g3, rfl, hb, hl1, hl2, hq⟩
    have HB3 := hid (HB.out.trans (hb.mono HB.out.size)); have HQ3 := hid hq
    clear hb hq
    go_wp2_with fail
    refine (qSign_c HQ3.out (by omega)).mono ?_
    rintro en w4 ⟨cc, rfl, hb, ho⟩
    have HB4 := hid (HB3.out.trans (hb.mono HB3.out.size)); have HO := hid ho
    clear hb ho
    go_wp2
    go_ret2
    exact ⟨cc, 0, rfl, HB4.out, .inl ⟨HP.out, rfl, by have := HO.out; rw [← HQ.out.num.val] at this; exact this⟩⟩

set_option maxRecDepth 100000 in
set_option maxHeartbeats 4000000 in
theorem rCmpErr_c {w : World} {sa : Bool} {xa : Option Addr} {na ca : Nat} {fa : Nat → Int} {ya : Option Addr} {ma ea : Nat} {ga : Nat → Int} {sb : Bool} {xb : Option Addr} {nb cb : Nat} {fb : Nat → Int} {yb : Option Addr} {mb eb : Nat} {gb : Nat → Int} (ha : Rw w xa na ca fa ya ma ea ga) (hb : Rw w xb nb cb fb yb mb eb gb) (hna : na ≤ 1000) (hma : ma ≤ 1000) (hnb : nb ≤ 1000) (hmb : mb ≤ 1000) (hp : (rfB sa fa na ga ma && rfB sb fb nb gb mb) = false) :
    Calls Tryz.prog 19 #[.agg #[.bool sa, .slice xa na ca, .slice ya ma ea], .agg #[.bool sb, .slice xb nb cb, .slice yb mb eb]] w fun en w' => en = .returned (.tuple #[.int .i64 0, .int .i64 3]) ∧ Below w.heap.size w w' := by
  have h1 := (bx3_at w (.bool sa) (.slice xa na ca) (.slice ya ma ea) 24).alloc (.cells #[.bool sb, .slice xb nb cb, .slice yb mb eb] 24)
  have h2 := bx3_at (w.alloc (.cells #[.bool sa, .slice xa na ca, .slice ya ma ea] 24)) (.bool sb) (.slice xb nb cb) (.slice yb mb eb) 24
  rw [size_alloc1] at h2
  have h4 := below_alloc (below_alloc (Below.refl w.heap.size w) (.cells #[.bool sa, .slice xa na ca, .slice ya ma ea] 24)) (.cells #[.bool sb, .slice xb nb cb, .slice yb mb eb] 24)
  have h5 := ha.below h4
  have h6 := hb.below h4
  clear ha hb
  go_enter Tryz.func19, Tryz.ntmps19
  go_wp2_with fail
  generalize (w.alloc (.cells #[.bool sa, .slice xa na ca, .slice ya ma ea] 24)).alloc (.cells #[.bool sb, .slice xb nb cb, .slice yb mb eb] 24) = w1 at *
  have HRA := hid h5; have HRB := hid h6; have HW := hid h4; have BA := hid h1; have BB := hid h2
  clear h1 h2 h4 h5 h6
  have c1 := rForm_c (s := sa) HRA.out (by omega) (by omega)
  cases h1 : rfB sa fa na ga ma
  · rw [h1] at c1
    refine c1.mono ?_
    rintro en w2 ⟨rfl, hb⟩
    have HB := hid (HW.out.trans (hb.mono HW.out.size))
    clear c1 hb hp
    go_wp2
    go_ret2
    exact ⟨rfl, HB.out⟩
  rw [h1] at c1
  refine c1.mono ?_
  rintro en w2 ⟨rfl, hb⟩
  have h2 : rfB sb fb nb gb mb = false := by rw [h1] at hp; simpa using hp
  have HB2 := hid hb
  clear c1 hb hp h1
  obtain ⟨zb, b0, b1, b2⟩ := BB.out.below HB2.out
  have c2 := rForm_c (s := sb) (HRB.out.below HB2.out) (by omega) (by omega)
  rw [h2] at c2
  go_wp2_with fail
  refine c2.mono ?_
  rintro en w3 ⟨rfl, hb⟩
  have HB3 := hid (HW.out.trans ((HB2.out.trans (hb.mono HB2.out.size)).mono HW.out.size))
  clear c2 hb h2
  go_wp2
  go_ret2
  exact ⟨rfl, HB3.out⟩

set_option maxRecDepth 100000 in
set_option maxHeartbeats 4000000 in
theorem docCmpErr_c {w : World} {sa : Bool} {xa : Option Addr} {na ca : Nat} {fa : Nat → Int} {ya : Option Addr} {ma ea : Nat} {ga : Nat → Int} {sb : Bool} {xb : Option Addr} {nb cb : Nat} {fb : Nat → Int} {yb : Option Addr} {mb eb : Nat} {gb : Nat → Int} (ha : Rw w xa na ca fa ya ma ea ga) (hb : Rw w xb nb cb fb yb mb eb gb) (hna : na ≤ 1000) (hma : ma ≤ 1000) (hnb : nb ≤ 1000) (hmb : mb ≤ 1000) (hp : (rfB sa fa na ga ma && rfB sb fb nb gb mb) = false) :
    Calls Tryz.prog 20 #[.agg #[.bool sa, .slice xa na ca, .slice ya ma ea], .agg #[.bool sb, .slice xb nb cb, .slice yb mb eb]] w fun en w' => en = .returned (.tuple #[.int .i64 0, .int .i64 3]) ∧ Below w.heap.size w w' := by
  have h1 := (bx3_at w (.bool sa) (.slice xa na ca) (.slice ya ma ea) 24).alloc (.cells #[.bool sb, .slice xb nb cb, .slice yb mb eb] 24)
  have h2 := bx3_at (w.alloc (.cells #[.bool sa, .slice xa na ca, .slice ya ma ea] 24)) (.bool sb) (.slice xb nb cb) (.slice yb mb eb) 24
  rw [size_alloc1] at h2
  have h4 := below_alloc (below_alloc (Below.refl w.heap.size w) (.cells #[.bool sa, .slice xa na ca, .slice ya ma ea] 24)) (.cells #[.bool sb, .slice xb nb cb, .slice yb mb eb] 24)
  have h5 := ha.below h4
  have h6 := hb.below h4
  clear ha hb
  go_enter Tryz.func20, Tryz.ntmps20
  go_wp2_with fail
  generalize (w.alloc (.cells #[.bool sa, .slice xa na ca, .slice ya ma ea] 24)).alloc (.cells #[.bool sb, .slice xb nb cb, .slice yb mb eb] 24) = w1 at *
  have HRA := hid h5; have HRB := hid h6; have HW := hid h4; have BA := hid h1; have BB := hid h2
  clear h1 h2 h4 h5 h6
  have c1 := qForm_c (s := sa) HRA.out (by omega) (by omega)
  cases h1 : rfB sa fa na ga ma
  · rw [h1] at c1
    refine c1.mono ?_
    rintro en w2 ⟨rfl, hb⟩
    have HB := hid (HW.out.trans (hb.mono HW.out.size))
    clear c1 hb hp
    go_wp2
    go_ret2
    exact ⟨rfl, HB.out⟩
  rw [h1] at c1
  refine c1.mono ?_
  rintro en w2 ⟨rfl, hb⟩
  have h2 : rfB sb fb nb gb mb = false := by rw [h1] at hp; simpa using hp
  have HB2 := hid hb
  clear c1 hb hp h1
  obtain ⟨zb, b0, b1, b2⟩ := BB.out.below HB2.out
  have c2 := qForm_c (s := sb) (HRB.out.below HB2.out) (by omega) (by omega)
  rw [h2] at c2
  go_wp2_with fail
  refine c2.mono ?_
  rintro en w3 ⟨rfl, hb⟩
  have HB3 := hid (HW.out.trans ((HB2.out.trans (hb.mono HB2.out.size)).mono HW.out.size))
  clear c2 hb h2
  go_wp2
  go_ret2
  exact ⟨rfl, HB3.out⟩

set_option maxRecDepth 100000 in
set_option maxHeartbeats 8000000 in
theorem docCmpOk_c {w : World} {sa : Bool} {xa : Option Addr} {na ca : Nat} {fa : Nat → Int} {ya : Option Addr} {ma ea : Nat} {ga : Nat → Int} {sb : Bool} {xb : Option Addr} {nb cb : Nat} {fb : Nat → Int} {yb : Option Addr} {mb eb : Nat} {gb : Nat → Int} (ha : Rw w xa na ca fa ya ma ea ga) (hb : Rw w xb nb cb fb yb mb eb gb) (hna : na ≤ 1000) (hma : ma ≤ 1000) (hnb : nb ≤ 1000) (hmb : mb ≤ 1000) {qa qb : Rat} (hqa : Rn 1000 w sa xa na ca fa ya ma ea ga qa) (hqb : Rn 1000 w sb xb nb cb fb yb mb eb gb qb) (hLa : na ≤ 100 ∧ ma ≤ 100 ∧ nb ≤ 100 ∧ mb ≤ 100) :
    Calls Tryz.prog 20 #[.agg #[.bool sa, .slice xa na ca, .slice ya ma ea], .agg #[.bool sb, .slice xb nb cb, .slice yb mb eb]] w fun en w' => ∃ c, en = .returned (.tuple #[.int .i64 c, .int .i64 0]) ∧ Below w.heap.size w w' ∧ ROrd c qa qb := by
  have HQA0 := hid (⟨hqa.num, hqa.den, hLa.1, hLa.2.1⟩ : Rn 100 w sa xa na ca fa ya ma ea ga qa); have HQB0 := hid (⟨hqb.num, hqb.den, hLa.2.2.1, hLa.2.2.2⟩ : Rn 100 w sb xb nb cb fb yb mb eb gb qb)
  have FA := hid hqa.rf; have FB := hid hqb.rf
  clear hqa hqb hLa
  have h1 := (bx3_at w (.bool sa) (.slice xa na ca) (.slice ya ma ea) 24).alloc (.cells #[.bool sb, .slice xb nb cb, .slice yb mb eb] 24)
  have h2 := bx3_at (w.alloc (.cells #[.bool sa, .slice xa na ca, .slice ya ma ea] 24)) (.bool sb) (.slice xb nb cb) (.slice yb mb eb) 24
  rw [size_alloc1] at h2
  have h4 := below_alloc (below_alloc (Below.refl w.heap.size w) (.cells #[.bool sa, .slice xa na ca, .slice ya ma ea] 24)) (.cells #[.bool sb, .slice xb nb cb, .slice yb mb eb] 24)
  have h5 := ha.below h4
  have h6 := hb.below h4
  clear ha hb
  go_enter Tryz.func20, Tryz.ntmps20
  go_wp2_with fail
  generalize (w.alloc (.cells #[.bool sa, .slice xa na ca, .slice ya ma ea] 24)).alloc (.cells #[.bool sb, .slice xb nb cb, .slice yb mb eb] 24) = w1 at *
  have HRA := hid h5; have HRB := hid h6; have HW := hid h4; have BA := hid h1; have BB := hid h2
  clear h1 h2 h4 h5 h6
  have c1 := qForm_c (s := sa) HRA.out (by omega) (by omega)
  rw [FA.out] at c1
  refine c1.mono ?_
  rintro en w2 ⟨rfl, hb⟩
  have HB2 := hid hb
  clear c1 hb
  obtain ⟨zb, b0, b1, b2⟩ := BB.out.below HB2.out
  have c2 := qForm_c (s := sb) (HRB.out.below HB2.out) (by omega) (by omega)
  rw [FB.out] at c2
  go_wp2_with fail
  refine c2.mono ?_
  rintro en w3 ⟨rfl, hb⟩
  have HB3 := hid (HB2.out.trans (hb.mono HB2.out.size))
  clear c2 hb zb b0 b1 b2
  obtain ⟨za, a0, a1, a2⟩ := BA.out.below HB3.out
  obtain ⟨zb, b0, b1, b2⟩ := BB.out.below HB3.out
  have HWA := hid (HW.out.trans (HB3.out.mono HW.out.size))
  have C1 : Hid (∀ W, Below w3.heap.size w3 W → Calls Tryz.prog 47 #[.agg #[.bool sa, .slice xa na ca, .slice ya ma ea]] W fun en w' => ∃ s x n c d y m c' g, en = .returned (.agg #[.bool s, .slice x n c, .slice y m c']) ∧ Below W.heap.size W w' ∧ Hid (n ≤ 200 ∧ m ≤ 200 ∧ Qn w' s x n d y m g qa)) := fun W hW => (qFrom_c ((HQA0.out.below HWA.out).below hW) (by omega)).mono (fun _ _ ⟨s, x, n, c, d, y, m, c', g, k1, k2, k3, k4, k5⟩ => ⟨s, x, n, c, d, y, m, c', g, k1, k2, k3, k4, k5⟩)
  have C2 : Hid (∀ W, Below w3.heap.size w3 W → Calls Tryz.prog 47 #[.agg #[.bool sb, .slice xb nb cb, .slice yb mb eb]] W fun en w' => ∃ s x n c d y m c' g, en = .returned (.agg #[.bool s, .slice x n c, .slice y m c']) ∧ Below W.heap.size W w' ∧ Hid (n ≤ 200 ∧ m ≤ 200 ∧ Qn w' s x n d y m g qb)) := fun W hW => (qFrom_c ((HQB0.out.below HWA.out).below hW) (by omega)).mono (fun _ _ ⟨s, x, n, c, d, y, m, c', g, k1, k2, k3, k4, k5⟩ => ⟨s, x, n, c, d, y, m, c', g, k1, k2, k3, k4, k5⟩)
  have C3 : Hid (∀ (W : World) (s5 : Bool) (x5 : Option Addr) (n5 c5 : Nat) (d5 : Nat → Int) (y5 : Option Addr) (m5 e5 : Nat) (g5 : Nat → Int) (s6 : Bool) (x6 : Option Addr) (n6 c6 : Nat) (d6 : Nat → Int) (y6 : Option Addr) (m6 e6 : Nat) (g6 : Nat → Int), (n5 ≤ 200 ∧ m5 ≤ 200) → (n6 ≤ 200 ∧ m6 ≤ 200) → Qn W s5 x5 n5 d5 y5 m5 g5 qa → Qn W s6 x6 n6 d6 y6 m6 g6 qb → Calls Tryz.prog 66 #[.agg #[.bool s5, .slice x5 n5 c5, .slice y5 m5 e5], .agg #[.bool s6, .slice x6 n6 c6, .slice y6 m6 e6]] W fun e w' => ∃ c, e = .returned (.int .i64 c) ∧ Below W.heap.size W w' ∧ Hid (ROrd c qa qb)) := fun W s5 x5 n5 c5 d5 y5 m5 e5 g5 s6 x6 n6 c6 d6 y6 m6 e6 g6 h1 h2 h3 h4 => qCmp_c h3 h4 (by omega) (by omega) (by omega) (by omega)
  go_wp2_with fail
  go_region_held3 (fun w' => w'.cell? ⟨w.heap.size, 0, none⟩ = some (.bool sa) ∧ w'.cell? ⟨w.heap.size, 1, none⟩ = some (.slice xa na ca) ∧ w'.cell? ⟨w.heap.size, 2, none⟩ = some (.slice ya ma ea) ∧ w'.cell? ⟨w.heap.size + 1, 0, none⟩ = some (.bool sb) ∧ w'.cell? ⟨w.heap.size + 1, 1, none⟩ = some (.slice xb nb cb) ∧ w'.cell? ⟨w.heap.size + 1, 2, none⟩ = some (.slice yb mb eb))
    (refine ⟨?_, ?_, ?_, ?_, ?_, ?_⟩ <;> repeat (with_reducible first | assumption | refine kCd ?_ | refine kCb (by assumption) ?_))
    (first
      | (go_at_call 47; with_reducible refine (C1.out _ (by repeat (with_reducible first | assumption | exact Below.refl _ _ | refine Below.drew ?_ | refine kBb (by assumption) ?_))).mono ?_; rintro e v5 ⟨s5, x5, n5, c5, d5, y5, m5, e5, g5, rfl, hb5, H5⟩)
      | (go_at_call 47; with_reducible refine (C2.out _ (by repeat (with_reducible first | assumption | exact Below.refl _ _ | refine Below.drew ?_ | refine kBb (by assumption) ?_))).mono ?_; rintro e v6 ⟨s6, x6, n6, c6, d6, y6, m6, e6, g6, rfl, hb6, H6⟩)
      | (go_at_call 66; with_reducible refine (C3.out _ s5 x5 n5 c5 d5 y5 m5 e5 g5 s6 x6 n6 c6 d6 y6 m6 e6 g6 ⟨H5.out.1, H5.out.2.1⟩ ⟨H6.out.1, H6.out.2.1⟩ (by repeat (with_reducible first | exact H5.out.2.2 | refine kQd ?_ | refine kQb (by assumption) ?_)) (by repeat (with_reducible first | exact H6.out.2.2 | refine kQd ?_ | refine kQb (by assumption) ?_))).mono ?_; rintro e v7 ⟨cc, rfl, hb7, H7⟩))
  all_goals
    have hb : Below w3.heap.size w3 v7 := (by repeat (with_reducible first | assumption | exact Below.refl _ _ | refine Below.drew ?_ | refine kBb (by assumption) ?_))
    have HBw := hid (HWA.out.trans (hb.mono HWA.out.size))
    clear hb
    go_wp2
    go_ret2
    exact ⟨cc, rfl, HBw.out, H7.out⟩
end Go.Proofs.YtndiiknbkjlbiaaGreatDoor
namespace Go.Proofs.YtndiiknbkjlbiaaGreatDoor
open Go.RowKit

theorem rquo_frac {a b : Rat} {s t : Bool} (ha : a.num = sg s a.num.natAbs) (hb : b.num = sg t b.num.natAbs) (h0 : 0 < b.num.natAbs) : a / b = ((sg (!(s == t)) (a.num.natAbs * b.den) : Int) : Rat) / (((a.den * b.num.natAbs : Nat) : Int) : Rat) := by
  obtain ⟨e1, e2⟩ := rinv hb h0
  rw [Rat.div_def, rmul_frac, e1, e2]
  have e3 : a.num * sg t b.den = sg (s != t) (a.num.natAbs * b.den) := by
    have := sg_mul s t a.num.natAbs b.den
    rw [← ha] at this; exact this
  rw [e3]
  have e4 : (s != t) = !(s == t) := by cases s <;> cases t <;> rfl
  rw [e4]

set_option maxRecDepth 100000 in
set_option maxHeartbeats 16000000 in
theorem qMul_c {w : World} {sa : Bool} {xa : Option Addr} {na ca : Nat} {da : Nat → Int} {ya : Option Addr} {ma ea : Nat} {ga : Nat → Int} {qa : Rat} {sb : Bool} {xb : Option Addr} {nb cb : Nat} {db : Nat → Int} {yb : Option Addr} {mb eb : Nat} {gb : Nat → Int} {qb : Rat} (ha : Qn w sa xa na da ya ma ga qa) (hb : Qn w sb xb nb db yb mb gb qb) (hna : na ≤ 1000) (hma : ma ≤ 1000) (hnb : nb ≤ 1000) (hmb : mb ≤ 1000) :
    Calls Tryz.prog 50 #[.agg #[.bool sa, .slice xa na ca, .slice ya ma ea], .agg #[.bool sb, .slice xb nb cb, .slice yb mb eb]] w fun e w' => QAns (na + ma + nb + mb + 3) w w' e (qa * qb) := by
  obtain ⟨h1, h2, h3, h4⟩ := qbox2 (w := w) (.bool sa) (.slice xa na ca) (.slice ya ma ea) (.bool sb) (.slice xb nb cb) (.slice yb mb eb) 72
  have h5 := ((ha.alloc (.cells #[.bool sa, .slice xa na ca, .slice ya ma ea] 72)).alloc (.cells #[.bool sb, .slice xb nb cb, .slice yb mb eb] 72)).alloc (.cells #[.bool false, .slice none 0 0, .slice none 0 0] 72)
  have h6 := ((hb.alloc (.cells #[.bool sa, .slice xa na ca, .slice ya ma ea] 72)).alloc (.cells #[.bool sb, .slice xb nb cb, .slice yb mb eb] 72)).alloc (.cells #[.bool false, .slice none 0 0, .slice none 0 0] 72)
  clear ha hb
  go_enter Tryz.func50, Tryz.ntmps50
  go_wp2_with fail
  generalize ((w.alloc (.cells #[.bool sa, .slice xa na ca, .slice ya ma ea] 72)).alloc (.cells #[.bool sb, .slice xb nb cb, .slice yb mb eb] 72)).alloc (.cells #[.bool false, .slice none 0 0, .slice none 0 0] 72) = w1 at *
  have HA := hid h5; have HB := hid h6; have OB := hid h3; have HW := hid h4
  obtain ⟨za, a0, a1, a2⟩ := h1
  obtain ⟨zb, b0, b1, b2⟩ := h2
  obtain ⟨hz, z0, z1, z2, zf⟩ := h3
  clear h4 h5 h6
  have HD := hid (show 0 < qa.den * qb.den from Nat.mul_pos qa.den_pos qb.den_pos)
  have C2 : Hid (∀ (W : World), Below w1.heap.size w1 W → Calls Tryz.prog 87 #[.agg #[.bool sa, .slice xa na ca], .agg #[.bool sb, .slice xb nb cb]] W fun e w' => ∃ s x n c d, e = .returned (.agg #[.bool s, .slice x n c]) ∧ Below W.heap.size W w' ∧ Hid (n ≤ na + nb ∧ Zn w' s x n d (qa.num * qb.num))) := fun W hW => zMulE_c (HA.out.num.below hW) (HB.out.num.below hW) (by omega) (by omega)
  have C6 : Hid (∀ W, Below w1.heap.size w1 W → Calls Tryz.prog 88 #[.slice ya ma ea, .slice yb mb eb] W fun e w' => ∃ z k c' q, e = .returned (.slice z k c') ∧ Below W.heap.size W w' ∧ Hid (k ≤ ma + mb ∧ Dn w' z k q (qa.den * qb.den))) := fun W hW => dMul_c (HA.out.den.below hW) (HB.out.den.below hW) (by omega) (by omega)
  have C7 : Hid (∀ (W : World) (s : Bool) (x : Option Addr) (n c : Nat) (d : Nat → Int) (y : Option Addr) (m e : Nat) (g : Nat → Int), n ≤ na + nb → m ≤ ma + mb → Zn W s x n d (qa.num * qb.num) → Dn W y m g (qa.den * qb.den) → Calls Tryz.prog 73 #[.agg #[.bool s, .slice x n c], .slice y m e] W fun en w' => ∃ s' x' n' c1 d' y' m' c2 g', en = .returned (.agg #[.bool s', .slice x' n' c1, .slice y' m' c2]) ∧ Below W.heap.size W w' ∧ Hid (n' ≤ na + ma + nb + mb + 3 ∧ m' ≤ na + ma + nb + mb + 3 ∧ Qn w' s' x' n' d' y' m' g' (qa * qb))) := fun W s x n c d y m e g h1 h2 h3 h4 => (mkQn_c h3 h4 (by omega) (by omega) HD.out).mono (fun _ _ ⟨s', x', n', c1, d', y', m', c2, g', k1, k2, k3, k4, k5⟩ => ⟨s', x', n', c1, d', y', m', c2, g', k1, k2, by omega, by omega, by rw [rmul_frac]; exact k5⟩)
  go_region_held3 (fun w' => w'.cell? ⟨w.heap.size, 0, none⟩ = some (.bool sa) ∧ w'.cell? ⟨w.heap.size, 1, none⟩ = some (.slice xa na ca) ∧ w'.cell? ⟨w.heap.size, 2, none⟩ = some (.slice ya ma ea) ∧ w'.cell? ⟨w.heap.size + 1, 0, none⟩ = some (.bool sb) ∧ w'.cell? ⟨w.heap.size + 1, 1, none⟩ = some (.slice xb nb cb) ∧ w'.cell? ⟨w.heap.size + 1, 2, none⟩ = some (.slice yb mb eb) ∧ (w'.cell? ⟨w.heap.size + 1 + 1, 0, none⟩).isSome = true ∧ (w'.cell? ⟨w.heap.size + 1 + 1, 1, none⟩).isSome = true ∧ (w'.cell? ⟨w.heap.size + 1 + 1, 2, none⟩).isSome = true ∧ w'.frozen? ⟨w.heap.size + 1 + 1, 0, none⟩ = false ∧ w'.frozen? ⟨w.heap.size + 1 + 1, 1, none⟩ = false ∧ w'.frozen? ⟨w.heap.size + 1 + 1, 2, none⟩ = false)
    (refine ⟨?_, ?_, ?_, ?_, ?_, ?_, ?_, ?_, ?_, ?_, ?_, ?_⟩ <;> repeat (with_reducible first | assumption | exact zf _ | exact uf _ | exact kf _ | exact pf _ | exact kI0 z0 | exact kI0 z1 | exact kI0 z2 | exact kI0 u0 | exact kI0 u1 | exact kI0 u2 | exact kI0 k0 | exact kI0 k1 | exact kI0 k2 | exact kI0 p0 | exact kI0 p1 | exact kI0 p2 | refine kCd ?_ | refine kId ?_ | refine kFd ?_ | refine kCs (by simp only [ne_eq]; omega) ?_ | refine kIs ?_ | refine kFs ?_ | refine kCb (by assumption) ?_ | refine kIb (by assumption) ?_))
    (first
      | (go_at_call 87; with_reducible refine (C2.out _ (by repeat (with_reducible first | assumption | exact Below.refl _ _ | refine Below.drew ?_ | refine kBb (by assumption) ?_))).mono ?_; rintro e v2 ⟨s2, x2, n2, c2, d2, rfl, hv2, H2⟩; have Tu : Ob v2 (w.heap.size + 1 + 1) := (by repeat (with_reducible first | exact OB.out | exact Tt | exact Tu | exact Tk | exact Tp | refine Ob.drew ?_ | refine kOb (by assumption) ?_)); obtain ⟨_, u0, u1, u2, uf⟩ := id Tu)
      | (go_at_call 88; with_reducible refine (C6.out _ (by repeat (with_reducible first | assumption | exact Below.refl _ _ | refine Below.drew ?_ | refine kBb (by assumption) ?_))).mono ?_; rintro e v6 ⟨z6, k6, c6, d6, rfl, hv6, H6⟩; have Tk : Ob v6 (w.heap.size + 1 + 1) := (by repeat (with_reducible first | exact OB.out | exact Tt | exact Tu | exact Tk | exact Tp | refine Ob.drew ?_ | refine kOb (by assumption) ?_)); obtain ⟨_, k0, k1, k2, kf⟩ := id Tk)
      | (go_at_call 73; with_reducible refine (C7.out _ s2 x2 n2 c2 d2 z6 k6 c6 d6 H2.out.1 H6.out.1 (by repeat (with_reducible first | exact H2.out.2 | refine kZd ?_ | refine kZb (by assumption) ?_)) (by repeat (with_reducible first | exact H6.out.2 | refine Dn.drew ?_ | refine kDb (by assumption) ?_))).mono ?_; rintro e v8 ⟨s8, x8, n8, c8, d8, y8, m8, e8, g8, rfl, hv8, H8⟩; have Tp : Ob v8 (w.heap.size + 1 + 1) := (by repeat (with_reducible first | exact OB.out | exact Tt | exact Tu | exact Tk | exact Tp | refine Ob.drew ?_ | refine kOb (by assumption) ?_)); obtain ⟨_, p0, p1, p2, pf⟩ := id Tp))
  all_goals
    have hb : Below w1.heap.size w1 v8 := (by repeat (with_reducible first | assumption | exact Below.refl _ _ | refine Below.drew ?_ | refine kBb (by assumption) ?_))
    go_wp2
    exact bodyPost_ret (v := .agg #[.bool s8, .slice x8 n8 c8, .slice y8 m8 e8]) (by simp [results, Tryz.results50, go_sem, p0, p1, p2]) rfl ⟨s8, x8, n8, c8, d8, y8, m8, e8, g8, rfl, below_st (HW.out.trans (hb.mono HW.out.size)) (by omega), H8.out.1, H8.out.2.1, Tp.qn H8.out.2.2⟩

set_option maxRecDepth 100000 in
set_option maxHeartbeats 16000000 in
theorem qQuo_c {w : World} {sa : Bool} {xa : Option Addr} {na ca : Nat} {da : Nat → Int} {ya : Option Addr} {ma ea : Nat} {ga : Nat → Int} {qa : Rat} {sb : Bool} {xb : Option Addr} {nb cb : Nat} {db : Nat → Int} {yb : Option Addr} {mb eb : Nat} {gb : Nat → Int} {qb : Rat} (ha : Qn w sa xa na da ya ma ga qa) (hb : Qn w sb xb nb db yb mb gb qb) (hna : na ≤ 1000) (hma : ma ≤ 1000) (hnb : nb ≤ 1000) (hmb : mb ≤ 1000) (hq0 : qb.num ≠ 0) :
    Calls Tryz.prog 52 #[.agg #[.bool sa, .slice xa na ca, .slice ya ma ea], .agg #[.bool sb, .slice xb nb cb, .slice yb mb eb]] w fun e w' => QAns (na + ma + nb + mb + 3) w w' e (qa / qb) := by
  obtain ⟨h1, h2, h3, h4⟩ := qbox2 (w := w) (.bool sa) (.slice xa na ca) (.slice ya ma ea) (.bool sb) (.slice xb nb cb) (.slice yb mb eb) 72
  have h5 := ((ha.alloc (.cells #[.bool sa, .slice xa na ca, .slice ya ma ea] 72)).alloc (.cells #[.bool sb, .slice xb nb cb, .slice yb mb eb] 72)).alloc (.cells #[.bool false, .slice none 0 0, .slice none 0 0] 72)
  have h6 := ((hb.alloc (.cells #[.bool sa, .slice xa na ca, .slice ya ma ea] 72)).alloc (.cells #[.bool sb, .slice xb nb cb, .slice yb mb eb] 72)).alloc (.cells #[.bool false, .slice none 0 0, .slice none 0 0] 72)
  clear ha hb
  go_enter Tryz.func52, Tryz.ntmps52
  go_wp2_with fail
  generalize ((w.alloc (.cells #[.bool sa, .slice xa na ca, .slice ya ma ea] 72)).alloc (.cells #[.bool sb, .slice xb nb cb, .slice yb mb eb] 72)).alloc (.cells #[.bool false, .slice none 0 0, .slice none 0 0] 72) = w1 at *
  have HA := hid h5; have HB := hid h6; have OB := hid h3; have HW := hid h4
  obtain ⟨za, a0, a1, a2⟩ := h1
  obtain ⟨zb, b0, b1, b2⟩ := h2
  obtain ⟨hz, z0, z1, z2, zf⟩ := h3
  clear h4 h5 h6
  have hp0 : 0 < qb.num.natAbs := by omega
  have HP0 := hid hp0
  have HD := hid (show 0 < qa.den * qb.num.natAbs from Nat.mul_pos qa.den_pos hp0)
  clear hp0 hq0
  have C2 : Hid (∀ (W : World), Below w1.heap.size w1 W → Calls Tryz.prog 88 #[.slice xa na ca, .slice yb mb eb] W fun e w' => ∃ z k c' q, e = .returned (.slice z k c') ∧ Below W.heap.size W w' ∧ Hid (k ≤ na + mb ∧ Dn w' z k q (qa.num.natAbs * qb.den))) := fun W hW => dMul_c (HA.out.num.dn.below hW) (HB.out.den.below hW) (by omega) (by omega)
  have C3 : Hid (∀ (W : World) (z : Option Addr) (k c : Nat) (d : Nat → Int), k ≤ na + mb → Dn W z k d (qa.num.natAbs * qb.den) → Calls Tryz.prog 69 #[.bool (!(sa == sb)), .slice z k c] W fun e w' => ∃ r, e = .returned (.agg #[.bool r, .slice z k c]) ∧ Below W.heap.size W w' ∧ Hid (Zn w' r z k d (sg (!(sa == sb)) (qa.num.natAbs * qb.den)))) := fun W z k c d h1 h2 => (mkZ_c (by omega)).mono (fun _ _ ⟨r, k1, k2, k3⟩ => ⟨r, k1, k2, Zn.of (h2.below k2) k3⟩)
  have C6 : Hid (∀ W, Below w1.heap.size w1 W → Calls Tryz.prog 88 #[.slice ya ma ea, .slice xb nb cb] W fun e w' => ∃ z k c' q, e = .returned (.slice z k c') ∧ Below W.heap.size W w' ∧ Hid (k ≤ ma + nb ∧ Dn w' z k q (qa.den * qb.num.natAbs))) := fun W hW => dMul_c (HA.out.den.below hW) (HB.out.num.dn.below hW) (by omega) (by omega)
  have C7 : Hid (∀ (W : World) (s : Bool) (x : Option Addr) (n c : Nat) (d : Nat → Int) (y : Option Addr) (m e : Nat) (g : Nat → Int), n ≤ na + mb → m ≤ ma + nb → Zn W s x n d (sg (!(sa == sb)) (qa.num.natAbs * qb.den)) → Dn W y m g (qa.den * qb.num.natAbs) → Calls Tryz.prog 73 #[.agg #[.bool s, .slice x n c], .slice y m e] W fun en w' => ∃ s' x' n' c1 d' y' m' c2 g', en = .returned (.agg #[.bool s', .slice x' n' c1, .slice y' m' c2]) ∧ Below W.heap.size W w' ∧ Hid (n' ≤ na + ma + nb + mb + 3 ∧ m' ≤ na + ma + nb + mb + 3 ∧ Qn w' s' x' n' d' y' m' g' (qa / qb))) := fun W s x n c d y m e g h1 h2 h3 h4 => (mkQn_c h3 h4 (by omega) (by omega) HD.out).mono (fun _ _ ⟨s', x', n', c1, d', y', m', c2, g', k1, k2, k3, k4, k5⟩ => ⟨s', x', n', c1, d', y', m', c2, g', k1, k2, by omega, by omega, by rw [rquo_frac HA.out.num.sgn HB.out.num.sgn HP0.out]; exact k5⟩)
  go_region_held3 (fun w' => w'.cell? ⟨w.heap.size, 0, none⟩ = some (.bool sa) ∧ w'.cell? ⟨w.heap.size, 1, none⟩ = some (.slice xa na ca) ∧ w'.cell? ⟨w.heap.size, 2, none⟩ = some (.slice ya ma ea) ∧ w'.cell? ⟨w.heap.size + 1, 0, none⟩ = some (.bool sb) ∧ w'.cell? ⟨w.heap.size + 1, 1, none⟩ = some (.slice xb nb cb) ∧ w'.cell? ⟨w.heap.size + 1, 2, none⟩ = some (.slice yb mb eb) ∧ (w'.cell? ⟨w.heap.size + 1 + 1, 0, none⟩).isSome = true ∧ (w'.cell? ⟨w.heap.size + 1 + 1, 1, none⟩).isSome = true ∧ (w'.cell? ⟨w.heap.size + 1 + 1, 2, none⟩).isSome = true ∧ w'.frozen? ⟨w.heap.size + 1 + 1, 0, none⟩ = false ∧ w'.frozen? ⟨w.heap.size + 1 + 1, 1, none⟩ = false ∧ w'.frozen? ⟨w.heap.size + 1 + 1, 2, none⟩ = false)
    (refine ⟨?_, ?_, ?_, ?_, ?_, ?_, ?_, ?_, ?_, ?_, ?_, ?_⟩ <;> repeat (with_reducible first | assumption | exact zf _ | exact tf _ | exact uf _ | exact kf _ | exact pf _ | exact kI0 z0 | exact kI0 z1 | exact kI0 z2 | exact kI0 t0 | exact kI0 t1 | exact kI0 t2 | exact kI0 u0 | exact kI0 u1 | exact kI0 u2 | exact kI0 k0 | exact kI0 k1 | exact kI0 k2 | exact kI0 p0 | exact kI0 p1 | exact kI0 p2 | refine kCd ?_ | refine kId ?_ | refine kFd ?_ | refine kCs (by simp only [ne_eq]; omega) ?_ | refine kIs ?_ | refine kFs ?_ | refine kCb (by assumption) ?_ | refine kIb (by assumption) ?_))
    (first
      | (go_at_call 88; with_reducible refine (C2.out _ (by repeat (with_reducible first | assumption | exact Below.refl _ _ | refine Below.drew ?_ | refine kBb (by assumption) ?_))).mono ?_; rintro e v2 ⟨zm, km, cm, dm, rfl, hv2, H2⟩; have Tt : Ob v2 (w.heap.size + 1 + 1) := (by repeat (with_reducible first | exact OB.out | exact Tt | exact Tu | exact Tk | exact Tp | refine Ob.drew ?_ | refine kOb (by assumption) ?_)); obtain ⟨_, t0, t1, t2, tf⟩ := id Tt)
      | (go_at_call 69; with_reducible refine (C3.out _ zm km cm dm H2.out.1 (by repeat (with_reducible first | exact H2.out.2 | refine Dn.drew ?_ | refine kDb (by assumption) ?_))).mono ?_; rintro e v3 ⟨r3, rfl, hv3, H3⟩; have Tu : Ob v3 (w.heap.size + 1 + 1) := (by repeat (with_reducible first | exact OB.out | exact Tt | exact Tu | exact Tk | exact Tp | refine Ob.drew ?_ | refine kOb (by assumption) ?_)); obtain ⟨_, u0, u1, u2, uf⟩ := id Tu)
      | (go_at_call 88; with_reducible refine (C6.out _ (by repeat (with_reducible first | assumption | exact Below.refl _ _ | refine Below.drew ?_ | refine kBb (by assumption) ?_))).mono ?_; rintro e v6 ⟨z6, k6, c6, d6, rfl, hv6, H6⟩; have Tk : Ob v6 (w.heap.size + 1 + 1) := (by repeat (with_reducible first | exact OB.out | exact Tt | exact Tu | exact Tk | exact Tp | refine Ob.drew ?_ | refine kOb (by assumption) ?_)); obtain ⟨_, k0, k1, k2, kf⟩ := id Tk)
      | (go_at_call 73; with_reducible refine (C7.out _ r3 zm km cm dm z6 k6 c6 d6 H2.out.1 H6.out.1 (by repeat (with_reducible first | exact H3.out | refine kZd ?_ | refine kZb (by assumption) ?_)) (by repeat (with_reducible first | exact H6.out.2 | refine Dn.drew ?_ | refine kDb (by assumption) ?_))).mono ?_; rintro e v8 ⟨s8, x8, n8, c8, d8, y8, m8, e8, g8, rfl, hv8, H8⟩; have Tp : Ob v8 (w.heap.size + 1 + 1) := (by repeat (with_reducible first | exact OB.out | exact Tt | exact Tu | exact Tk | exact Tp | refine Ob.drew ?_ | refine kOb (by assumption) ?_)); obtain ⟨_, p0, p1, p2, pf⟩ := id Tp))
  all_goals
    have hb : Below w1.heap.size w1 v8 := (by repeat (with_reducible first | assumption | exact Below.refl _ _ | refine Below.drew ?_ | refine kBb (by assumption) ?_))
    go_wp2
    exact bodyPost_ret (v := .agg #[.bool s8, .slice x8 n8 c8, .slice y8 m8 e8]) (by simp [results, Tryz.results52, go_sem, p0, p1, p2]) rfl ⟨s8, x8, n8, c8, d8, y8, m8, e8, g8, rfl, below_st (HW.out.trans (hb.mono HW.out.size)) (by omega), H8.out.1, H8.out.2.1, Tp.qn H8.out.2.2⟩

/-- To, on a rational number of the reference. -/
theorem qToR_c {w : World} {s : Bool} {x : Option Addr} {n c : Nat} {d : Nat → Int} {y : Option Addr} {m e : Nat} {g : Nat → Int} {q : Rat} (h : Qn w s x n d y m g q) (hn : n ≤ 4096) (hm : m ≤ 4096) :
    Calls Tryz.prog 41 #[.agg #[.bool s, .slice x n c, .slice y m e]] w fun en w' => ∃ z k c' f z2 k2 c2 f2, en = .returned (.agg #[.bool s, .slice z k c', .slice z2 k2 c2]) ∧ Below w.heap.size w w' ∧ Hid (Rn (n + m) w' s z k c' f z2 k2 c2 f2 q) := by
  refine (qTo_c h.num.dn h.den hn hm).mono ?_
  rintro en w' ⟨z, k, c', f, z2, k2, c2, f2, rfl, h2, h3, h4, h5, h6, _, _⟩
  refine ⟨z, k, c', f, z2, k2, c2, f2, rfl, h2, ⟨h5.rd, h5.lm, (wfB_iff _ _ _).2 ⟨fm_of_wfB h5.wf, fun hs => ?_⟩, h5.cap, h5.nil, ?_⟩, h6, by omega, by omega⟩
  · have h0 := h.num.dn.pos' (h.num.pos hs)
    rcases Nat.eq_zero_or_pos k with hk | hk
    · subst hk
      have hv := h5.val
      rw [wv_false] at hv
      have : (0 : Int) = q.num.natAbs := hv
      omega
    · exact hk
  · have hv := h5.val
    rw [wv_false] at hv
    have hs := h.num.sgn
    cases s
    · rw [wv_false, hv]; exact hs.symm
    · rw [wv_true, hv]; exact hs.symm
end Go.Proofs.YtndiiknbkjlbiaaGreatDoor
namespace Go.Proofs.YtndiiknbkjlbiaaGreatDoor
open Go.RowKit

set_option maxRecDepth 100000 in
set_option maxHeartbeats 4000000 in
theorem rAddErr_c {w : World} {sa : Bool} {xa : Option Addr} {na ca : Nat} {fa : Nat → Int} {ya : Option Addr} {ma ea : Nat} {ga : Nat → Int} {sb : Bool} {xb : Option Addr} {nb cb : Nat} {fb : Nat → Int} {yb : Option Addr} {mb eb : Nat} {gb : Nat → Int} (ha : Rw w xa na ca fa ya ma ea ga) (hb : Rw w xb nb cb fb yb mb eb gb) (hna : na ≤ 1000) (hma : ma ≤ 1000) (hnb : nb ≤ 1000) (hmb : mb ≤ 1000) (hp : (rfB sa fa na ga ma && rfB sb fb nb gb mb) = false) :
    Calls Tryz.prog 35 #[.agg #[.bool sa, .slice xa na ca, .slice ya ma ea], .agg #[.bool sb, .slice xb nb cb, .slice yb mb eb]] w fun en w' => en = .returned (.tuple #[.agg #[.bool false, .slice none 0 0, .slice none 0 0], .int .i64 3]) ∧ Below w.heap.size w w' := by
  obtain ⟨h1, h2, h3, h4⟩ := qbox2 (w := w) (.bool sa) (.slice xa na ca) (.slice ya ma ea) (.bool sb) (.slice xb nb cb) (.slice yb mb eb) 24
  have h5 := ha.below h4
  have h6 := hb.below h4
  clear ha hb
  go_enter Tryz.func35, Tryz.ntmps35
  go_wp2_with fail
  generalize ((w.alloc (.cells #[.bool sa, .slice xa na ca, .slice ya ma ea] 24)).alloc (.cells #[.bool sb, .slice xb nb cb, .slice yb mb eb] 24)).alloc (.cells #[.bool false, .slice none 0 0, .slice none 0 0] 24) = w1 at *
  have HRA := hid h5; have HRB := hid h6; have HW := hid h4; have BA := hid h1; have BB := hid h2; have OB := hid h3
  clear h1 h2 h3 h4 h5 h6
  have c1 := rForm_c (s := sa) HRA.out (by omega) (by omega)
  cases h1 : rfB sa fa na ga ma
  · rw [h1] at c1
    refine c1.mono ?_
    rintro en w2 ⟨rfl, hb⟩
    have HB := hid (HW.out.trans (hb.mono HW.out.size))
    obtain ⟨hz, z0, z1, z2, zf⟩ := OB.out.below hb
    clear c1 hb hp
    go_wp2
    exact bodyPost_ret (v := .tuple #[.agg #[.bool false, .slice none 0 0, .slice none 0 0], .int .i64 3]) (by simp [results, Tryz.results35, go_sem, z0, z1, z2]) rfl ⟨rfl, below_st HB.out (by omega)⟩
  rw [h1] at c1
  refine c1.mono ?_
  rintro en w2 ⟨rfl, hb⟩
  have h2 : rfB sb fb nb gb mb = false := by rw [h1] at hp; simpa using hp
  have HB2 := hid hb
  clear c1 hb hp h1
  obtain ⟨zb, b0, b1, b2⟩ := BB.out.below HB2.out
  have c2 := rForm_c (s := sb) (HRB.out.below HB2.out) (by omega) (by omega)
  rw [h2] at c2
  go_wp2_with fail
  refine c2.mono ?_
  rintro en w3 ⟨rfl, hb⟩
  have HB3 := hid (HB2.out.trans (hb.mono HB2.out.size))
  have HB := hid (HW.out.trans (HB3.out.mono HW.out.size))
  obtain ⟨hz, z0, z1, z2, zf⟩ := OB.out.below HB3.out
  clear c2 hb h2 zb b0 b1 b2
  go_wp2
  exact bodyPost_ret (v := .tuple #[.agg #[.bool false, .slice none 0 0, .slice none 0 0], .int .i64 3]) (by simp [results, Tryz.results35, go_sem, z0, z1, z2]) rfl ⟨rfl, below_st HB.out (by omega)⟩

set_option maxRecDepth 100000 in
set_option maxHeartbeats 4000000 in
theorem rSubErr_c {w : World} {sa : Bool} {xa : Option Addr} {na ca : Nat} {fa : Nat → Int} {ya : Option Addr} {ma ea : Nat} {ga : Nat → Int} {sb : Bool} {xb : Option Addr} {nb cb : Nat} {fb : Nat → Int} {yb : Option Addr} {mb eb : Nat} {gb : Nat → Int} (ha : Rw w xa na ca fa ya ma ea ga) (hb : Rw w xb nb cb fb yb mb eb gb) (hna : na ≤ 1000) (hma : ma ≤ 1000) (hnb : nb ≤ 1000) (hmb : mb ≤ 1000) (hp : (rfB sa fa na ga ma && rfB sb fb nb gb mb) = false) :
    Calls Tryz.prog 43 #[.agg #[.bool sa, .slice xa na ca, .slice ya ma ea], .agg #[.bool sb, .slice xb nb cb, .slice yb mb eb]] w fun en w' => en = .returned (.tuple #[.agg #[.bool false, .slice none 0 0, .slice none 0 0], .int .i64 3]) ∧ Below w.heap.size w w' := by
  obtain ⟨h1, h2, h3, h4⟩ := qbox2 (w := w) (.bool sa) (.slice xa na ca) (.slice ya ma ea) (.bool sb) (.slice xb nb cb) (.slice yb mb eb) 24
  have h5 := ha.below h4
  have h6 := hb.below h4
  clear ha hb
  go_enter Tryz.func43, Tryz.ntmps43
  go_wp2_with fail
  generalize ((w.alloc (.cells #[.bool sa, .slice xa na ca, .slice ya ma ea] 24)).alloc (.cells #[.bool sb, .slice xb nb cb, .slice yb mb eb] 24)).alloc (.cells #[.bool false, .slice none 0 0, .slice none 0 0] 24) = w1 at *
  have HRA := hid h5; have HRB := hid h6; have HW := hid h4; have BA := hid h1; have BB := hid h2; have OB := hid h3
  clear h1 h2 h3 h4 h5 h6
  have c1 := rForm_c (s := sa) HRA.out (by omega) (by omega)
  cases h1 : rfB sa fa na ga ma
  · rw [h1] at c1
    refine c1.mono ?_
    rintro en w2 ⟨rfl, hb⟩
    have HB := hid (HW.out.trans (hb.mono HW.out.size))
    obtain ⟨hz, z0, z1, z2, zf⟩ := OB.out.below hb
    clear c1 hb hp
    go_wp2
    exact bodyPost_ret (v := .tuple #[.agg #[.bool false, .slice none 0 0, .slice none 0 0], .int .i64 3]) (by simp [results, Tryz.results43, go_sem, z0, z1, z2]) rfl ⟨rfl, below_st HB.out (by omega)⟩
  rw [h1] at c1
  refine c1.mono ?_
  rintro en w2 ⟨rfl, hb⟩
  have h2 : rfB sb fb nb gb mb = false := by rw [h1] at hp; simpa using hp
  have HB2 := hid hb
  clear c1 hb hp h1
  obtain ⟨zb, b0, b1, b2⟩ := BB.out.below HB2.out
  have c2 := rForm_c (s := sb) (HRB.out.below HB2.out) (by omega) (by omega)
  rw [h2] at c2
  go_wp2_with fail
  refine c2.mono ?_
  rintro en w3 ⟨rfl, hb⟩
  have HB3 := hid (HB2.out.trans (hb.mono HB2.out.size))
  have HB := hid (HW.out.trans (HB3.out.mono HW.out.size))
  obtain ⟨hz, z0, z1, z2, zf⟩ := OB.out.below HB3.out
  clear c2 hb h2 zb b0 b1 b2
  go_wp2
  exact bodyPost_ret (v := .tuple #[.agg #[.bool false, .slice none 0 0, .slice none 0 0], .int .i64 3]) (by simp [results, Tryz.results43, go_sem, z0, z1, z2]) rfl ⟨rfl, below_st HB.out (by omega)⟩

set_option maxRecDepth 100000 in
set_option maxHeartbeats 4000000 in
theorem rMulErr_c {w : World} {sa : Bool} {xa : Option Addr} {na ca : Nat} {fa : Nat → Int} {ya : Option Addr} {ma ea : Nat} {ga : Nat → Int} {sb : Bool} {xb : Option Addr} {nb cb : Nat} {fb : Nat → Int} {yb : Option Addr} {mb eb : Nat} {gb : Nat → Int} (ha : Rw w xa na ca fa ya ma ea ga) (hb : Rw w xb nb cb fb yb mb eb gb) (hna : na ≤ 1000) (hma : ma ≤ 1000) (hnb : nb ≤ 1000) (hmb : mb ≤ 1000) (hp : (rfB sa fa na ga ma && rfB sb fb nb gb mb) = false) :
    Calls Tryz.prog 44 #[.agg #[.bool sa, .slice xa na ca, .slice ya ma ea], .agg #[.bool sb, .slice xb nb cb, .slice yb mb eb]] w fun en w' => en = .returned (.tuple #[.agg #[.bool false, .slice none 0 0, .slice none 0 0], .int .i64 3]) ∧ Below w.heap.size w w' := by
  obtain ⟨h1, h2, h3, h4⟩ := qbox2 (w := w) (.bool sa) (.slice xa na ca) (.slice ya ma ea) (.bool sb) (.slice xb nb cb) (.slice yb mb eb) 24
  have h5 := ha.below h4
  have h6 := hb.below h4
  clear ha hb
  go_enter Tryz.func44, Tryz.ntmps44
  go_wp2_with fail
  generalize ((w.alloc (.cells #[.bool sa, .slice xa na ca, .slice ya ma ea] 24)).alloc (.cells #[.bool sb, .slice xb nb cb, .slice yb mb eb] 24)).alloc (.cells #[.bool false, .slice none 0 0, .slice none 0 0] 24) = w1 at *
  have HRA := hid h5; have HRB := hid h6; have HW := hid h4; have BA := hid h1; have BB := hid h2; have OB := hid h3
  clear h1 h2 h3 h4 h5 h6
  have c1 := rForm_c (s := sa) HRA.out (by omega) (by omega)
  cases h1 : rfB sa fa na ga ma
  · rw [h1] at c1
    refine c1.mono ?_
    rintro en w2 ⟨rfl, hb⟩
    have HB := hid (HW.out.trans (hb.mono HW.out.size))
    obtain ⟨hz, z0, z1, z2, zf⟩ := OB.out.below hb
    clear c1 hb hp
    go_wp2
    exact bodyPost_ret (v := .tuple #[.agg #[.bool false, .slice none 0 0, .slice none 0 0], .int .i64 3]) (by simp [results, Tryz.results44, go_sem, z0, z1, z2]) rfl ⟨rfl, below_st HB.out (by omega)⟩
  rw [h1] at c1
  refine c1.mono ?_
  rintro en w2 ⟨rfl, hb⟩
  have h2 : rfB sb fb nb gb mb = false := by rw [h1] at hp; simpa using hp
  have HB2 := hid hb
  clear c1 hb hp h1
  obtain ⟨zb, b0, b1, b2⟩ := BB.out.below HB2.out
  have c2 := rForm_c (s := sb) (HRB.out.below HB2.out) (by omega) (by omega)
  rw [h2] at c2
  go_wp2_with fail
  refine c2.mono ?_
  rintro en w3 ⟨rfl, hb⟩
  have HB3 := hid (HB2.out.trans (hb.mono HB2.out.size))
  have HB := hid (HW.out.trans (HB3.out.mono HW.out.size))
  obtain ⟨hz, z0, z1, z2, zf⟩ := OB.out.below HB3.out
  clear c2 hb h2 zb b0 b1 b2
  go_wp2
  exact bodyPost_ret (v := .tuple #[.agg #[.bool false, .slice none 0 0, .slice none 0 0], .int .i64 3]) (by simp [results, Tryz.results44, go_sem, z0, z1, z2]) rfl ⟨rfl, below_st HB.out (by omega)⟩

set_option maxRecDepth 100000 in
set_option maxHeartbeats 4000000 in
theorem rQuoErr_c {w : World} {sa : Bool} {xa : Option Addr} {na ca : Nat} {fa : Nat → Int} {ya : Option Addr} {ma ea : Nat} {ga : Nat → Int} {sb : Bool} {xb : Option Addr} {nb cb : Nat} {fb : Nat → Int} {yb : Option Addr} {mb eb : Nat} {gb : Nat → Int} (ha : Rw w xa na ca fa ya ma ea ga) (hb : Rw w xb nb cb fb yb mb eb gb) (hna : na ≤ 1000) (hma : ma ≤ 1000) (hnb : nb ≤ 1000) (hmb : mb ≤ 1000) (hp : (rfB sa fa na ga ma && rfB sb fb nb gb mb) = false) :
    Calls Tryz.prog 45 #[.agg #[.bool sa, .slice xa na ca, .slice ya ma ea], .agg #[.bool sb, .slice xb nb cb, .slice yb mb eb]] w fun en w' => en = .returned (.tuple #[.agg #[.bool false, .slice none 0 0, .slice none 0 0], .int .i64 3]) ∧ Below w.heap.size w w' := by
  obtain ⟨h1, h2, h3, h4⟩ := qbox2 (w := w) (.bool sa) (.slice xa na ca) (.slice ya ma ea) (.bool sb) (.slice xb nb cb) (.slice yb mb eb) 24
  have h5 := ha.below h4
  have h6 := hb.below h4
  clear ha hb
  go_enter Tryz.func45, Tryz.ntmps45
  go_wp2_with fail
  generalize ((w.alloc (.cells #[.bool sa, .slice xa na ca, .slice ya ma ea] 24)).alloc (.cells #[.bool sb, .slice xb nb cb, .slice yb mb eb] 24)).alloc (.cells #[.bool false, .slice none 0 0, .slice none 0 0] 24) = w1 at *
  have HRA := hid h5; have HRB := hid h6; have HW := hid h4; have BA := hid h1; have BB := hid h2; have OB := hid h3
  clear h1 h2 h3 h4 h5 h6
  have c1 := rForm_c (s := sa) HRA.out (by omega) (by omega)
  cases h1 : rfB sa fa na ga ma
  · rw [h1] at c1
    refine c1.mono ?_
    rintro en w2 ⟨rfl, hb⟩
    have HB := hid (HW.out.trans (hb.mono HW.out.size))
    obtain ⟨hz, z0, z1, z2, zf⟩ := OB.out.below hb
    clear c1 hb hp
    go_wp2
    exact bodyPost_ret (v := .tuple #[.agg #[.bool false, .slice none 0 0, .slice none 0 0], .int .i64 3]) (by simp [results, Tryz.results45, go_sem, z0, z1, z2]) rfl ⟨rfl, below_st HB.out (by omega)⟩
  rw [h1] at c1
  refine c1.mono ?_
  rintro en w2 ⟨rfl, hb⟩
  have h2 : rfB sb fb nb gb mb = false := by rw [h1] at hp; simpa using hp
  have HB2 := hid hb
  clear c1 hb hp h1
  obtain ⟨zb, b0, b1, b2⟩ := BB.out.below HB2.out
  have c2 := rForm_c (s := sb) (HRB.out.below HB2.out) (by omega) (by omega)
  rw [h2] at c2
  go_wp2_with fail
  refine c2.mono ?_
  rintro en w3 ⟨rfl, hb⟩
  have HB3 := hid (HB2.out.trans (hb.mono HB2.out.size))
  have HB := hid (HW.out.trans (HB3.out.mono HW.out.size))
  obtain ⟨hz, z0, z1, z2, zf⟩ := OB.out.below HB3.out
  clear c2 hb h2 zb b0 b1 b2
  go_wp2
  exact bodyPost_ret (v := .tuple #[.agg #[.bool false, .slice none 0 0, .slice none 0 0], .int .i64 3]) (by simp [results, Tryz.results45, go_sem, z0, z1, z2]) rfl ⟨rfl, below_st HB.out (by omega)⟩

set_option maxRecDepth 100000 in
set_option maxHeartbeats 4000000 in
theorem docErr_c {w : World} {sa : Bool} {xa : Option Addr} {na ca : Nat} {fa : Nat → Int} {ya : Option Addr} {ma ea : Nat} {ga : Nat → Int} {sb : Bool} {xb : Option Addr} {nb cb : Nat} {fb : Nat → Int} {yb : Option Addr} {mb eb : Nat} {gb : Nat → Int} (ha : Rw w xa na ca fa ya ma ea ga) (hb : Rw w xb nb cb fb yb mb eb gb) (hna : na ≤ 1000) (hma : ma ≤ 1000) (hnb : nb ≤ 1000) (hmb : mb ≤ 1000) (kind : Int) (hp : (rfB sa fa na ga ma && rfB sb fb nb gb mb) = false) :
    Calls Tryz.prog 14 #[.int .i64 kind, .agg #[.bool sa, .slice xa na ca, .slice ya ma ea], .agg #[.bool sb, .slice xb nb cb, .slice yb mb eb]] w fun en w' => en = .returned (.tuple #[.agg #[.bool false, .slice none 0 0, .slice none 0 0], .int .i64 3]) ∧ Below w.heap.size w w' := by
  obtain ⟨h1, h2, h3, h4⟩ := qbox2 (w := w) (.bool sa) (.slice xa na ca) (.slice ya ma ea) (.bool sb) (.slice xb nb cb) (.slice yb mb eb) 24
  have h5 := ha.below h4
  have h6 := hb.below h4
  clear ha hb
  go_enter Tryz.func14, Tryz.ntmps14
  go_wp2_with fail
  generalize ((w.alloc (.cells #[.bool sa, .slice xa na ca, .slice ya ma ea] 24)).alloc (.cells #[.bool sb, .slice xb nb cb, .slice yb mb eb] 24)).alloc (.cells #[.bool false, .slice none 0 0, .slice none 0 0] 24) = w1 at *
  have HRA := hid h5; have HRB := hid h6; have HW := hid h4; have BA := hid h1; have BB := hid h2; have OB := hid h3
  clear h1 h2 h3 h4 h5 h6
  have c1 := qForm_c (s := sa) HRA.out (by omega) (by omega)
  cases h1 : rfB sa fa na ga ma
  · rw [h1] at c1
    refine c1.mono ?_
    rintro en w2 ⟨rfl, hb⟩
    have HB := hid (HW.out.trans (hb.mono HW.out.size))
    obtain ⟨hz, z0, z1, z2, zf⟩ := OB.out.below hb
    clear c1 hb hp
    go_wp2
    exact bodyPost_ret (v := .tuple #[.agg #[.bool false, .slice none 0 0, .slice none 0 0], .int .i64 3]) (by simp [results, Tryz.results14, go_sem, z0, z1, z2]) rfl ⟨rfl, below_st HB.out (by omega)⟩
  rw [h1] at c1
  refine c1.mono ?_
  rintro en w2 ⟨rfl, hb⟩
  have h2 : rfB sb fb nb gb mb = false := by rw [h1] at hp; simpa using hp
  have HB2 := hid hb
  clear c1 hb hp h1
  obtain ⟨zb, b0, b1, b2⟩ := BB.out.below HB2.out
  have c2 := qForm_c (s := sb) (HRB.out.below HB2.out) (by omega) (by omega)
  rw [h2] at c2
  go_wp2_with fail
  refine c2.mono ?_
  rintro en w3 ⟨rfl, hb⟩
  have HB3 := hid (HB2.out.trans (hb.mono HB2.out.size))
  have HB := hid (HW.out.trans (HB3.out.mono HW.out.size))
  obtain ⟨hz, z0, z1, z2, zf⟩ := OB.out.below HB3.out
  clear c2 hb h2 zb b0 b1 b2
  go_wp2
  exact bodyPost_ret (v := .tuple #[.agg #[.bool false, .slice none 0 0, .slice none 0 0], .int .i64 3]) (by simp [results, Tryz.results14, go_sem, z0, z1, z2]) rfl ⟨rfl, below_st HB.out (by omega)⟩

set_option maxRecDepth 100000 in
set_option maxHeartbeats 4000000 in
theorem rNegErr_c {w : World} {s : Bool} {x : Option Addr} {n c : Nat} {f : Nat → Int} {y : Option Addr} {m e : Nat} {g : Nat → Int} (h : Rw w x n c f y m e g) (hn : n ≤ 1000) (hm : m ≤ 1000) (hp : rfB s f n g m = false) :
    Calls Tryz.prog 15 #[.agg #[.bool s, .slice x n c, .slice y m e]] w fun en w' => en = .returned (.tuple #[.agg #[.bool false, .slice none 0 0, .slice none 0 0], .int .i64 3]) ∧ Below w.heap.size w w' := by
  obtain ⟨h1, h2, h3⟩ := qbox1 (w := w) (.bool s) (.slice x n c) (.slice y m e) 24 24
  have h5 := h.below h3
  clear h
  go_enter Tryz.func15, Tryz.ntmps15
  go_wp2_with fail
  generalize (w.alloc (.cells #[.bool s, .slice x n c, .slice y m e] 24)).alloc (.cells #[.bool false, .slice none 0 0, .slice none 0 0] 24) = w1 at *
  have HR := hid h5; have HW := hid h3; have BX := hid h1; have OB := hid h2
  clear h1 h2 h3 h5
  have c1 := rForm_c (s := s) HR.out (by omega) (by omega)
  rw [hp] at c1
  refine c1.mono ?_
  rintro en w2 ⟨rfl, hb⟩
  have HB := hid (HW.out.trans (hb.mono HW.out.size))
  obtain ⟨hz, z0, z1, z2, zf⟩ := OB.out.below hb
  clear c1 hb hp
  go_wp2
  exact bodyPost_ret (v := .tuple #[.agg #[.bool false, .slice none 0 0, .slice none 0 0], .int .i64 3]) (by simp [results, Tryz.results15, go_sem, z0, z1, z2]) rfl ⟨rfl, below_st HB.out (by omega)⟩

set_option maxRecDepth 100000 in
set_option maxHeartbeats 4000000 in
theorem docNegErr_c {w : World} {s : Bool} {x : Option Addr} {n c : Nat} {f : Nat → Int} {y : Option Addr} {m e : Nat} {g : Nat → Int} (h : Rw w x n c f y m e g) (hn : n ≤ 1000) (hm : m ≤ 1000) (hp : rfB s f n g m = false) :
    Calls Tryz.prog 16 #[.agg #[.bool s, .slice x n c, .slice y m e]] w fun en w' => en = .returned (.tuple #[.agg #[.bool false, .slice none 0 0, .slice none 0 0], .int .i64 3]) ∧ Below w.heap.size w w' := by
  obtain ⟨h1, h2, h3⟩ := qbox1 (w := w) (.bool s) (.slice x n c) (.slice y m e) 24 24
  have h5 := h.below h3
  clear h
  go_enter Tryz.func16, Tryz.ntmps16
  go_wp2_with fail
  generalize (w.alloc (.cells #[.bool s, .slice x n c, .slice y m e] 24)).alloc (.cells #[.bool false, .slice none 0 0, .slice none 0 0] 24) = w1 at *
  have HR := hid h5; have HW := hid h3; have BX := hid h1; have OB := hid h2
  clear h1 h2 h3 h5
  have c1 := qForm_c (s := s) HR.out (by omega) (by omega)
  rw [hp] at c1
  refine c1.mono ?_
  rintro en w2 ⟨rfl, hb⟩
  have HB := hid (HW.out.trans (hb.mono HW.out.size))
  obtain ⟨hz, z0, z1, z2, zf⟩ := OB.out.below hb
  clear c1 hb hp
  go_wp2
  exact bodyPost_ret (v := .tuple #[.agg #[.bool false, .slice none 0 0, .slice none 0 0], .int .i64 3]) (by simp [results, Tryz.results16, go_sem, z0, z1, z2]) rfl ⟨rfl, below_st HB.out (by omega)⟩

set_option maxRecDepth 100000 in
set_option maxHeartbeats 4000000 in
theorem docNegOk_c {w : World} {s : Bool} {x : Option Addr} {n c : Nat} {f : Nat → Int} {y : Option Addr} {m e : Nat} {g : Nat → Int} {q : Rat} (h : Rw w x n c f y m e g) (hq : Rn 100 w s x n c f y m e g q) :
    Calls Tryz.prog 16 #[.agg #[.bool s, .slice x n c, .slice y m e]] w fun en w' => ∃ s' x' n' c1 f' y' m' c2 g', en = .returned (.tuple #[.agg #[.bool s', .slice x' n' c1, .slice y' m' c2], .int .i64 0]) ∧ Below w.heap.size w w' ∧ Rn 1000 w' s' x' n' c1 f' y' m' c2 g' (-q) := by
  have hn := hq.ln; have hm := hq.ld
  have HQ0 := hid hq; have HP := hid hq.rf
  clear hq
  obtain ⟨h1, h2, h3⟩ := qbox1 (w := w) (.bool s) (.slice x n c) (.slice y m e) 24 24
  have h5 := h.below h3
  clear h
  go_enter Tryz.func16, Tryz.ntmps16
  go_wp2_with fail
  generalize (w.alloc (.cells #[.bool s, .slice x n c, .slice y m e] 24)).alloc (.cells #[.bool false, .slice none 0 0, .slice none 0 0] 24) = w1 at *
  have HR := hid h5; have HW := hid h3; have BX := hid h1; have OB := hid h2
  clear h1 h2 h3 h5
  have c1 := qForm_c (s := s) HR.out (by omega) (by omega)
  rw [HP.out] at c1
  refine c1.mono ?_
  rintro en w2 ⟨rfl, hb⟩
  have HB2 := hid hb
  have HBw := hid (HW.out.trans (hb.mono HW.out.size))
  clear c1 hb
  obtain ⟨z, x0, x1, x2⟩ := BX.out.below HB2.out
  go_wp2_with fail
  refine (qFrom_c (HQ0.out.below HBw.out) (by omega)).mono ?_
  rintro en w3 ⟨s3, x3, n3, c3, d3, y3, m3, e3, g3, rfl, hb, hl1, hl2, hq3⟩
  have HB3 := hid (HB2.out.trans (hb.mono HB2.out.size)); have Q3 := hid hq3
  clear hb hq3 z x0 x1 x2
  go_wp2_with fail
  refine (qNeg_c Q3.out (by omega)).mono ?_
  rintro en w4 ⟨s4, c4, rfl, hb, Q4⟩
  have HB4 := hid (HB3.out.trans (hb.mono HB3.out.size))
  clear hb
  go_wp2_with fail
  refine (qToR_c Q4.out (by omega) (by omega)).mono ?_
  rintro en w5 ⟨z5, k5, c5, f5, y5, m5, e5, g5, rfl, hb, R5⟩
  have HB5 := hid (HB4.out.trans (hb.mono HB4.out.size)); have HBl := hid (HW.out.trans ((HB4.out.trans (hb.mono HB4.out.size)).mono HW.out.size))
  clear hb
  obtain ⟨hz, z0, z1, z2, zf⟩ := OB.out.below HB5.out
  go_wp2
  exact bodyPost_ret (v := .tuple #[.agg #[.bool s4, .slice z5 k5 c5, .slice y5 m5 e5], .int .i64 0]) (by simp [results, Tryz.results16, go_sem, z0, z1, z2]) rfl ⟨s4, z5, k5, c5, f5, y5, m5, e5, g5, rfl, below_st HBl.out (by omega), (OB.out.below HB5.out).rn (R5.out.mono (by omega))⟩
end Go.Proofs.YtndiiknbkjlbiaaGreatDoor
namespace Go.Proofs.YtndiiknbkjlbiaaGreatDoor
open Go.RowKit

theorem zIntE_c {w : World} {z : Int} (h0 : -9223372036854775808 ≤ z) (h1 : z ≤ 9223372036854775807) :
    Calls Tryz.prog 81 #[.int .i64 z] w fun e w' => ∃ s x n c d, e = .returned (.agg #[.bool s, .slice x n c]) ∧ Below w.heap.size w w' ∧ Hid (n ≤ 2 ∧ Zn w' s x n d z) := by
  refine (zInt_c z w h0 h1).mono ?_
  rintro e w' ⟨s, x, n, c, d, rfl, h⟩
  have h2 := vd_nonneg h.dg
  have hv := h.val
  cases s
  · have hv' : vd d n = z := hv
    exact ⟨false, x, n, c, d, rfl, h.bel, h.le, ⟨h.rd, h.dg, h.fm, by omega⟩, by show z = (z.natAbs : Int); omega, h.sgn⟩
  · have hv' : - vd d n = z := hv
    exact ⟨true, x, n, c, d, rfl, h.bel, h.le, ⟨h.rd, h.dg, h.fm, by omega⟩, by show z = -(z.natAbs : Int); omega, h.sgn⟩

set_option maxRecDepth 100000 in
set_option maxHeartbeats 4000000 in
theorem qInt_c {w : World} {z : Int} (h0 : -9223372036854775808 ≤ z) (h1 : z ≤ 9223372036854775807) :
    Calls Tryz.prog 42 #[.int .i64 z] w fun e w' => QAns 2 w w' e (z : Rat) := by
  have h2 := ob_new w 72
  have h3 := below_alloc (Below.refl w.heap.size w) (.cells #[.bool false, .slice none 0 0, .slice none 0 0] 72)
  go_enter Tryz.func42, Tryz.ntmps42
  go_wp2_with fail
  generalize w.alloc (.cells #[.bool false, .slice none 0 0, .slice none 0 0] 72) = w1 at *
  have OB := hid h2; have HW := hid h3
  clear h2 h3
  refine (zIntE_c h0 h1).mono ?_
  rintro e w2 ⟨s2, x2, n2, c2, d2, rfl, hb, H2⟩
  have HB2 := hid hb
  clear hb
  go_wp2_with fail
  refine (dWord_c (V := 1) (by decide)).mono ?_
  rintro e w3 ⟨z3, k3, c3, d3, rfl, hb, H3⟩
  have HB3 := hid (HB2.out.trans (hb.mono HB2.out.size)); have Z3 := hid (H2.out.2.below hb)
  have hk3 := H3.out.1; have hn2 := H2.out.1
  clear hb
  obtain ⟨hz, z0, z1, z2, zf⟩ := OB.out.below HB3.out
  go_wp2
  refine bodyPost_ret (v := .agg #[.bool s2, .slice x2 n2 c2, .slice z3 k3 c3]) (by simp [results, Tryz.results42, go_sem, z0, z1, z2]) rfl ⟨s2, x2, n2, c2, d2, z3, k3, c3, d3, rfl, below_st (HW.out.trans (HB3.out.mono HW.out.size)) (by omega), by omega, by omega, (OB.out.below HB3.out).qn ⟨?_, ?_⟩⟩
  · rw [Rat.num_intCast]; exact Z3.out
  · rw [Rat.den_intCast]; exact H3.out.2

set_option maxRecDepth 100000 in
set_option maxHeartbeats 4000000 in
theorem docOfQ_c {w : World} {z : Int} (h0 : -9223372036854775808 ≤ z) (h1 : z ≤ 9223372036854775807) :
    Calls Tryz.prog 10 #[.int .i64 z] w fun e w' => RatAns 4 w w' e (z : Rat) := by
  have h2 := ob_new w 24
  have h3 := below_alloc (Below.refl w.heap.size w) (.cells #[.bool false, .slice none 0 0, .slice none 0 0] 24)
  go_enter Tryz.func10, Tryz.ntmps10
  go_wp2_with fail
  generalize w.alloc (.cells #[.bool false, .slice none 0 0, .slice none 0 0] 24) = w1 at *
  have OB := hid h2; have HW := hid h3
  clear h2 h3
  refine (qInt_c h0 h1).mono ?_
  rintro e w2 ⟨s2, x2, n2, c2, d2, y2, m2, e2, g2, rfl, hb, hl1, hl2, hq⟩
  have HB2 := hid hb; have HQ := hid hq
  clear hb hq
  go_wp2_with fail
  refine (qToR_c HQ.out (by omega) (by omega)).mono ?_
  rintro e w3 ⟨z3, k3, c3, f3, y3, m3, e3, g3, rfl, hb, R3⟩
  have HB3 := hid (HB2.out.trans (hb.mono HB2.out.size))
  clear hb
  obtain ⟨hz, z0, z1, z2, zf⟩ := OB.out.below HB3.out
  go_wp2
  exact bodyPost_ret (v := .agg #[.bool s2, .slice z3 k3 c3, .slice y3 m3 e3]) (by simp [results, Tryz.results10, go_sem, z0, z1, z2]) rfl ⟨s2, z3, k3, c3, f3, y3, m3, e3, g3, rfl, below_st (HW.out.trans (HB3.out.mono HW.out.size)) (by omega), (OB.out.below HB3.out).rn (R3.out.mono (by omega))⟩
end Go.Proofs.YtndiiknbkjlbiaaGreatDoor

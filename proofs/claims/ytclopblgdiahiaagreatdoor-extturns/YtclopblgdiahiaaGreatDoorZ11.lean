/-
  Walks of the document's DocCmp, DocMax, DocMin of bounds, whatever they are handed; of the statements' same, light, num. Walks of ext: number, Scale of minus infinity by a number below 0, Text of infinity; of the statements' own look at answers that the document fixes (awake). Walks of ext: Of, Neg, Shift, Scale, whatever they are handed. The order of bounds goes along with shifts and scales (for ExtTurns). How long the numbers that ext's calls answer are (for ExtTurns). Walks of rat.Text and of the document's DocText, whatever they are handed; Twin, whose lists lie in blocks of limbs. Which bytes are a rational number's text; walks of strings.Cut at a bar, of rat's readDen and Read. The walk of rat.Read, whatever it is handed.
-/
import Derived.Test.YtclopblgdiahiaaGreatDoorZ10
import Derived.Test.YtclopblgdiahiaaGreatDoorZ8
import Derived.Lib.IndexLaws
namespace Go.Proofs.YtclopblgdiahiaaGreatDoor
open Go.RowKit

set_option maxRecDepth 100000 in
set_option maxHeartbeats 4000000 in
theorem elight_c {w : World} {i1 : Int} {s1 : Bool} {x1 : Option Addr} {n1 c1 : Nat} {y1 : Option Addr} {m1 d1 : Nat} {i2 : Int} {s2 : Bool} {x2 : Option Addr} {n2 c2 : Nat} {y2 : Option Addr} {m2 d2 : Nat} (l1 : n1 ≤ 9223372036854775807) (l2 : m1 ≤ 9223372036854775807) (l3 : n2 ≤ 9223372036854775807) (l4 : m2 ≤ 9223372036854775807) :
    Calls Tryz.prog 19 #[.agg #[.int .i64 i1, .bool s1, .slice x1 n1 c1, .slice y1 m1 d1], .agg #[.int .i64 i2, .bool s2, .slice x2 n2 c2, .slice y2 m2 d2]] w fun e w' => e = .returned (.bool (lg n1 m1 20 && lg n2 m2 20)) ∧ Below w.heap.size w w' := by
  have h1 := (bx4_at w (.int .i64 i1) (.bool s1) (.slice x1 n1 c1) (.slice y1 m1 d1) 39).alloc (.cells #[.int .i64 i2, .bool s2, .slice x2 n2 c2, .slice y2 m2 d2] 39)
  have h2 := bx4_at (w.alloc (.cells #[.int .i64 i1, .bool s1, .slice x1 n1 c1, .slice y1 m1 d1] 39)) (.int .i64 i2) (.bool s2) (.slice x2 n2 c2) (.slice y2 m2 d2) 39
  rw [size_alloc1] at h2
  have h3 := below_alloc (below_alloc (Below.refl w.heap.size w) (.cells #[.int .i64 i1, .bool s1, .slice x1 n1 c1, .slice y1 m1 d1] 39)) (.cells #[.int .i64 i2, .bool s2, .slice x2 n2 c2, .slice y2 m2 d2] 39)
  have C1 := hid (fun W => rLight_c s1 x1 y1 n1 c1 m1 d1 W l1 l2)
  have C2 := hid (fun W => rLight_c s2 x2 y2 n2 c2 m2 d2 W l3 l4)
  obtain ⟨p, hp⟩ : ∃ p, lg n1 m1 20 = p := ⟨_, rfl⟩
  obtain ⟨q, hq⟩ : ∃ p, lg n2 m2 20 = p := ⟨_, rfl⟩
  rw [hp, hq]
  rw [hp] at C1
  rw [hq] at C2
  clear hp hq
  go_enter Tryz.func19, Tryz.ntmps19
  go_upto_region 1 with fail
  generalize (w.alloc (.cells #[.int .i64 i1, .bool s1, .slice x1 n1 c1, .slice y1 m1 d1] 39)).alloc (.cells #[.int .i64 i2, .bool s2, .slice x2 n2 c2, .slice y2 m2 d2] 39) = w1 at *
  have HW := hid h3; have BB := hid h2
  obtain ⟨za, a0, a1, a2, a3⟩ := h1
  clear h2 h3
  go_wp2_with fail
  refine (C1.out _).mono ?_
  rintro e w2 ⟨rfl, hb⟩
  have HB := hid (HW.out.trans (hb.mono HW.out.size)); have BB2 := hid (BB.out.below hb)
  clear hb za a0 a1 a2 a3
  cases p
  · go_wp2
    go_ret
    exact ⟨rfl, HB.out⟩
  obtain ⟨zb, b0, b1, b2, b3⟩ := BB2.out
  go_wp2_with fail
  refine (C2.out _).mono ?_
  rintro e w3 ⟨rfl, hb⟩
  have HB3 := hid (HB.out.trans (hb.mono HB.out.size))
  clear hb
  go_wp2
  go_ret
  exact ⟨rfl, HB3.out⟩

set_option maxRecDepth 100000 in
set_option maxHeartbeats 4000000 in
theorem num4_c {w : World} {z : Int} (l1 : -9223372036854775808 ≤ z) (l2 : z ≤ 9223372036854775807) : Calls Tryz.prog 58 #[.int .i64 z] w fun e w' => ∃ s x n c f y m d g, e = .returned (.agg #[.int .i64 0, .bool s, .slice x n c, .slice y m d]) ∧ Below w.heap.size w w' ∧ Hid (En 4 w' 0 s x n c f y m d g (z : Rat)) := by
  have h2 := ob4_new w 39
  have h3 := below_alloc (Below.refl w.heap.size w) (.cells #[.int .i64 0, .bool false, .slice none 0 0, .slice none 0 0] 39)
  go_enter Tryz.func58, Tryz.ntmps58
  go_wp2_with fail
  generalize w.alloc (.cells #[.int .i64 0, .bool false, .slice none 0 0, .slice none 0 0] 39) = w1 at *
  have OB := hid h2; have HW := hid h3
  clear h2 h3
  refine (qInt_c l1 l2).mono ?_
  rintro e w2 ⟨s2, x2, n2, c2, d2, y2, m2, e2, g2, rfl, hb, hl1, hl2, hq⟩
  have HB2 := hid hb; have Q2 := hid hq
  clear hb hq
  go_wp2_with fail
  refine (xNum_c Q2.out).mono ?_
  rintro e w3 ⟨rfl, hb, hf⟩
  have HB3 := hid (HB2.out.trans (hb.mono HB2.out.size)); have F3 := hid hf
  clear hb hf
  go_wp2_with fail
  refine (xTo_c F3.out (by omega) (by omega)).mono ?_
  rintro e w4 ⟨x4, n4, c4, f4, y4, m4, d4, g4, rfl, hb, H4⟩
  have HB4 := hid (HW.out.trans ((HB3.out.trans (hb.mono HB3.out.size)).mono HW.out.size)); have OB4 := hid ((OB.out.below HB3.out).below hb)
  clear hb
  obtain ⟨hz, z0, z1, z2, z3, zf⟩ := OB4.out
  go_wp2
  exact bodyPost_ret (v := .agg #[.int .i64 0, .bool s2, .slice x4 n4 c4, .slice y4 m4 d4]) (by simp [results, Tryz.results58, go_sem, z0, z1, z2, z3]) rfl ⟨s2, x4, n4, c4, f4, y4, m4, d4, g4, rfl, below_st4 HB4.out (Nat.le_refl _), ⟨OB4.out.rn (H4.out.rn.mono (by omega)), .inl rfl⟩⟩
end Go.Proofs.YtclopblgdiahiaaGreatDoor
namespace Go.Proofs.YtclopblgdiahiaaGreatDoor
open Go.RowKit

theorem kLid {w B a0 a1 a2 a3 b0 b1 b2 b3} (h : Li2 w B a0 a1 a2 a3 b0 b1 b2 b3) : Li2 w.drew B a0 a1 a2 a3 b0 b1 b2 b3 := ⟨h.z, h.x0, h.x1, h.x2, h.x3, h.y0, h.y1, h.y2, h.y3⟩
set_option maxRecDepth 100000 in
set_option maxHeartbeats 4000000 in
theorem enumber_c {w : World} {s : Bool} {x : Option Addr} {n c : Nat} {y : Option Addr} {m d : Nat} : Calls Tryz.prog 71 #[.agg #[.bool s, .slice x n c, .slice y m d]] w fun e w' => e = .returned (.agg #[.int .i64 0, .bool s, .slice x n c, .slice y m d]) ∧ Below w.heap.size w w' := by
  have h1 := (bx3_at w (.bool s) (.slice x n c) (.slice y m d) 32).alloc (.cells #[.int .i64 0, .bool false, .slice none 0 0, .slice none 0 0] 39)
  have h2 := ob4_new (w.alloc (.cells #[.bool s, .slice x n c, .slice y m d] 32)) 39
  rw [size_alloc1] at h2
  have h3 := below_alloc (below_alloc (Below.refl w.heap.size w) (.cells #[.bool s, .slice x n c, .slice y m d] 32)) (.cells #[.int .i64 0, .bool false, .slice none 0 0, .slice none 0 0] 39)
  go_enter Tryz.func71, Tryz.ntmps71
  go_upto_region 1 with fail
  generalize (w.alloc (.cells #[.bool s, .slice x n c, .slice y m d] 32)).alloc (.cells #[.int .i64 0, .bool false, .slice none 0 0, .slice none 0 0] 39) = w1 at *
  have HW := hid h3
  obtain ⟨z, x0, x1, x2⟩ := h1
  obtain ⟨hz, z0, z1, z2, z3, zf⟩ := h2
  clear h3
  go_wp2
  exact bodyPost_ret (v := .agg #[.int .i64 0, .bool s, .slice x n c, .slice y m d]) (by simp [results, Tryz.results71, go_sem, z0, z1, z2, z3]) rfl ⟨rfl, below_st4 HW.out (by omega)⟩

set_option maxRecDepth 100000 in
set_option maxHeartbeats 4000000 in
theorem eScaleLow_c {w : World} {s : Bool} {x : Option Addr} {n c : Nat} {f : Nat → Int} {y : Option Addr} {m d : Nat} {g : Nat → Int} {x2 : Option Addr} {n2 c2 : Nat} {f2 : Nat → Int} {y2 : Option Addr} {m2 d2 : Nat} {g2 : Nat → Int} {q : Rat} (h : En 4 w (-1) s x n c f y m d g 0) (hr : Rn 4 w true x2 n2 c2 f2 y2 m2 d2 g2 q) :
    Calls Tryz.prog 24 #[.agg #[.int .i64 (-1), .bool s, .slice x n c, .slice y m d], .agg #[.bool true, .slice x2 n2 c2, .slice y2 m2 d2]] w fun e w' => ∃ s x n c f y m d g, e = .returned (.tuple #[.agg #[.int .i64 1, .bool s, .slice x n c, .slice y m d], .int .i64 0]) ∧ Below w.heap.size w w' ∧ Hid (En 4 w' 1 s x n c f y m d g 0) := by
  have hn2 : 0 < n2 := sgn_of_wfB hr.num.wf rfl
  have k1 := ((bx4_at w (.int .i64 (-1)) (.bool s) (.slice x n c) (.slice y m d) 39).alloc (.cells #[.bool true, .slice x2 n2 c2, .slice y2 m2 d2] 32)).alloc (.cells #[.int .i64 0, .bool false, .slice none 0 0, .slice none 0 0] 39)
  have k2 := (bx3_at (w.alloc (.cells #[.int .i64 (-1), .bool s, .slice x n c, .slice y m d] 39)) (.bool true) (.slice x2 n2 c2) (.slice y2 m2 d2) 32).alloc (.cells #[.int .i64 0, .bool false, .slice none 0 0, .slice none 0 0] 39)
  rw [size_alloc1] at k2
  have k5 := ob4_new ((w.alloc (.cells #[.int .i64 (-1), .bool s, .slice x n c, .slice y m d] 39)).alloc (.cells #[.bool true, .slice x2 n2 c2, .slice y2 m2 d2] 32)) 39
  rw [size_alloc1, size_alloc1] at k5
  have k3 := below_alloc (below_alloc (below_alloc (Below.refl w.heap.size w) (.cells #[.int .i64 (-1), .bool s, .slice x n c, .slice y m d] 39)) (.cells #[.bool true, .slice x2 n2 c2, .slice y2 m2 d2] 32)) (.cells #[.int .i64 0, .bool false, .slice none 0 0, .slice none 0 0] 39)
  have HE := hid (h.below k3); have HR := hid (hr.below k3)
  have hl1 := h.rn.ln; have hl2 := h.rn.ld; have hl3 := hr.ln; have hl4 := hr.ld
  have hnd : decide (n2 = 0) = false := decide_eq_false (by omega)
  clear h hr
  go_enter Tryz.func24, Tryz.ntmps24
  go_upto_region 1 with fail
  generalize ((w.alloc (.cells #[.int .i64 (-1), .bool s, .slice x n c, .slice y m d] 39)).alloc (.cells #[.bool true, .slice x2 n2 c2, .slice y2 m2 d2] 32)).alloc (.cells #[.int .i64 0, .bool false, .slice none 0 0, .slice none 0 0] 39) = w1 at *
  have HW := hid k3; have OB := hid k5; have BA := hid k1; have BB := hid k2
  clear k1 k2 k3 k5
  have CN : Hid (∀ W : World, Calls Tryz.prog 71 #[.agg #[.bool true, .slice x2 n2 c2, .slice y2 m2 d2]] W fun e w' => e = .returned (.agg #[.int .i64 0, .bool true, .slice x2 n2 c2, .slice y2 m2 d2]) ∧ Below W.heap.size W w') := fun W => enumber_c
  have CAF : Hid (∀ (W : World) (B : Nat), Li2 W B (.int .i64 (-1)) (.bool s) (.slice x n c) (.slice y m d) (.int .i64 0) (.bool true) (.slice x2 n2 c2) (.slice y2 m2 d2) → Below w1.heap.size w1 W → Calls Tryz.prog 68 #[.slice (some ⟨B, 0, none⟩) 2 2] W fun e w' => e = .returned (.bool true) ∧ Below W.heap.size W w') := fun W B hB hW => by
    have e1 := HE.out.below hW
    have e2 : En 4 W 0 true x2 n2 c2 f2 y2 m2 d2 g2 q := ⟨HR.out.below hW, .inl rfl⟩
    have := allForm2_c hB e1.rn.rw e2.rn.rw (by omega) (by omega) (by omega) (by omega)
    rw [e1.ef, e2.ef] at this
    exact this
  obtain ⟨za, a0, a1, a2, a3⟩ := BA.out
  obtain ⟨zb, b0, b1, b2⟩ := BB.out
  go_region_held3 (fun w' => w'.cell? ⟨w.heap.size, 0, none⟩ = some (.int .i64 (-1)) ∧ w'.cell? ⟨w.heap.size, 1, none⟩ = some (.bool s) ∧ w'.cell? ⟨w.heap.size, 2, none⟩ = some (.slice x n c) ∧ w'.cell? ⟨w.heap.size, 3, none⟩ = some (.slice y m d) ∧ w'.cell? ⟨w.heap.size + 1, 0, none⟩ = some (.bool true) ∧ w'.cell? ⟨w.heap.size + 1, 1, none⟩ = some (.slice x2 n2 c2) ∧ w'.cell? ⟨w.heap.size + 1, 2, none⟩ = some (.slice y2 m2 d2))
    (refine ⟨?_, ?_, ?_, ?_, ?_, ?_, ?_⟩ <;> repeat (with_reducible first | assumption | refine kCd ?_ | refine kCa ?_ | refine kCb (by assumption) ?_))
    (first
      | (go_at_call 71; with_reducible refine (CN.out _).mono ?_; rintro e v5 ⟨rfl, hb5⟩)
      | (go_at_call 68; with_reducible refine (CAF.out _ _ (by repeat (with_reducible first | exact li2_at _ _ _ _ _ _ _ _ _ _ | refine kLid ?_)) (by repeat (with_reducible first | assumption | exact Below.refl _ _ | refine Below.drew ?_ | refine kBa ?_ | refine kBb (by assumption) ?_))).mono ?_; rintro e v6 ⟨rfl, hb6⟩))
  all_goals
    have hb : Below w1.heap.size w1 v6 := (by repeat (with_reducible first | assumption | exact Below.refl _ _ | refine Below.drew ?_ | refine kBa ?_ | refine kBb (by assumption) ?_))
    have HB6 := hid hb
    clear hb za a0 a1 a2 a3 zb b0 b1 b2
    obtain ⟨za, a0, a1, a2, a3⟩ := BA.out.below HB6.out
    obtain ⟨zb, b0, b1, b2⟩ := BB.out.below HB6.out
    go_wp2_with fail
    refine eIsZero_c.mono ?_
    rintro e w7 ⟨rfl, hb⟩
    rw [hnd]
    have HB7 := hid (HB6.out.trans (hb.mono HB6.out.size))
    clear hb za a0 a1 a2 a3 zb b0 b1 b2
    obtain ⟨za, a0, a1, a2, a3⟩ := BA.out.below HB7.out
    obtain ⟨zb, b0, b1, b2⟩ := BB.out.below HB7.out
    go_wp2_with fail
    refine eInf_c.mono ?_
    rintro e w8 ⟨s8, x8, n8, c8, f8, y8, m8, d8, g8, rfl, hb, hr8⟩
    have HB8 := hid (HW.out.trans ((HB7.out.trans (hb.mono HB7.out.size)).mono HW.out.size)); have OB8 := hid ((OB.out.below HB7.out).below hb); have R8 := hid hr8
    clear hb hr8 za a0 a1 a2 a3 zb b0 b1 b2
    obtain ⟨hz, z0, z1, z2, z3, zf⟩ := OB8.out
    go_wp2
    exact bodyPost_ret (v := .tuple #[.agg #[.int .i64 1, .bool s8, .slice x8 n8 c8, .slice y8 m8 d8], .int .i64 0]) (by simp [results, Tryz.results24, go_sem, z0, z1, z2, z3]) rfl ⟨s8, x8, n8, c8, f8, y8, m8, d8, g8, rfl, below_st4 HB8.out (by omega), ⟨OB8.out.rn R8.out, .inr ⟨by decide, rfl⟩⟩⟩

set_option maxRecDepth 100000 in
set_option maxHeartbeats 4000000 in
theorem eTextHigh_c {w : World} {s : Bool} {x : Option Addr} {n c : Nat} {f : Nat → Int} {y : Option Addr} {m d : Nat} {g : Nat → Int} (h : En 4 w 1 s x n c f y m d g 0) :
    Calls Tryz.prog 28 #[.agg #[.int .i64 1, .bool s, .slice x n c, .slice y m d]] w fun e w' => e = .returned (.tuple #[.string ⟨#[105, 110, 102]⟩, .int .i64 0]) ∧ Below w.heap.size w w' := by
  have BX := hid (bx4_at w (.int .i64 1) (.bool s) (.slice x n c) (.slice y m d) 39)
  have HW := hid (below_alloc (Below.refl w.heap.size w) (.cells #[.int .i64 1, .bool s, .slice x n c, .slice y m d] 39))
  have HE := hid (h.alloc (.cells #[.int .i64 1, .bool s, .slice x n c, .slice y m d] 39))
  have hl1 := h.rn.ln; have hl2 := h.rn.ld
  clear h
  go_enter Tryz.func28, Tryz.ntmps28
  go_upto_region 1 with fail
  generalize w.alloc (.cells #[.int .i64 1, .bool s, .slice x n c, .slice y m d] 39) = w1 at *
  obtain ⟨z, x0, x1, x2, x3⟩ := BX.out
  have cf := fun (t : TypeId) => allForm1_c (bx4_at w1 (.int .i64 1) (.bool s) (.slice x n c) (.slice y m d) t) (HE.out.rn.rw.alloc _) (by omega) (by omega)
  rw [HE.out.ef] at cf
  have CF := hid cf
  clear cf
  go_wp2_with fail
  refine (CF.out _).mono ?_
  rintro e w2 ⟨rfl, hb⟩
  have HB1 : Hid (Below w1.heap.size w1 w2) := (below_alloc (Below.refl _ _) _).trans (hb.mono (by simp))
  have HB := hid (HW.out.trans (HB1.out.mono HW.out.size))
  clear hb z x0 x1 x2 x3 CF
  obtain ⟨z, x0, x1, x2, x3⟩ := BX.out.below HB1.out
  go_wp2
  go_ret2
  exact ⟨rfl, HB.out⟩

theorem q45 : ((3 : Int) : Rat) < ((4 : Int) : Rat) := by decide +kernel
theorem cmp_low {p : Bool} {r er : Int} (h : OC true (-1) 0 0 ((-5 : Int) : Rat) r er) (_hp : p = true) : r = -1 ∧ er = 0 := by
  rcases h with ⟨h1, _⟩ | ⟨_, h1, h2⟩
  · cases h1
  · rcases h2 with ⟨h2, _⟩ | ⟨_, h2, _⟩ | ⟨_, h2 | ⟨h2, _⟩⟩
    · exact ⟨h2, h1⟩
    · omega
    · omega
    · omega
theorem max_34 {k : Int} {q : Rat} (h : EMax 0 ((3 : Int) : Rat) 0 ((4 : Int) : Rat) k q) : k = 0 ∧ q = ((4 : Int) : Rat) := by
  have h0 : EOrd (-1) 0 ((3 : Int) : Rat) 0 ((4 : Int) : Rat) := .inl ⟨rfl, .inr ⟨rfl, q45⟩⟩
  exact h.uniq ⟨-1, h0, .inl ⟨by decide, rfl, rfl⟩⟩
theorem ef_bad : efB 1 false (fun _ => 0) 0 (fun _ => 0) 0 = false := by decide

set_option maxRecDepth 100000 in
set_option maxHeartbeats 4000000 in
theorem eAwake_c (w : World) : Calls Tryz.prog 18 #[] w fun e w' => e = .returned (.bool true) ∧ Below w.heap.size w w' := by
  go_enter Tryz.func18, Tryz.ntmps18
  go_wp2_with fail
  refine eLow_c.mono ?_
  rintro e w1 ⟨aas, aax, aan, aac, aaf, aay, aam, aad, aag, rfl, hb, hr⟩
  have HW1 := hid hb; have L1 := hid hr
  clear hb hr
  go_wp2_with fail
  refine (docOfQ_c (z := -2) (by decide) (by decide)).mono ?_
  rintro e w2 ⟨bbs, bbx, bbn, bbc, bbf, bby, bbm, bbd, bbg, rfl, hb, hr⟩
  have hneg : bbs = true := by
    have h1 := hr.num.sgn
    rw [Rat.num_intCast] at h1
    cases bbs
    · simp [sg] at h1
    · rfl
  subst hneg
  have HW2 := hid (HW1.out.trans (hb.mono HW1.out.size)); have L2 := hid (L1.out.below hb); have R2 := hid hr
  clear hb hr L1 HW1
  go_wp2_with fail
  refine (eScaleLow_c L2.out R2.out).mono ?_
  rintro e w3 ⟨ps, px, pn, pc, pf, py, pm, pd, pg, rfl, hb, HA3⟩
  have HW3 := hid (below_alloc (HW2.out.trans (hb.mono HW2.out.size)) (.cells #[.int .i64 1, .bool ps, .slice px pn pc, .slice py pm pd] 39)); have A3 := hid (HA3.out.alloc (.cells #[.int .i64 1, .bool ps, .slice px pn pc, .slice py pm pd] 39)); have BA3 := hid (bx4_at w3 (.int .i64 1) (.bool ps) (.slice px pn pc) (.slice py pm pd) 39)
  clear hb HA3 HW2 L2 R2
  go_wp2_with fail
  generalize w3.alloc (.cells #[.int .i64 1, .bool ps, .slice px pn pc, .slice py pm pd] 39) = w4 at *
  generalize w3.heap.size = bA at *
  refine eLow_c.mono ?_
  rintro e w5 ⟨a2s, a2x, a2n, a2c, a2f, a2y, a2m, a2d, a2g, rfl, hb, hr⟩
  have HW5 := hid (HW3.out.trans (hb.mono HW3.out.size)); have A5 := hid (A3.out.below hb); have BA5 := hid (BA3.out.below hb); have L5 := hid hr
  clear hb hr HW3 A3 BA3
  go_wp2_with fail
  refine (num4_c (z := -5) (by decide) (by decide)).mono ?_
  rintro e w6 ⟨b2s, b2x, b2n, b2c, b2f, b2y, b2m, b2d, b2g, rfl, hb, H6⟩
  have HW6 := hid (HW5.out.trans (hb.mono HW5.out.size)); have A6 := hid (A5.out.below hb); have BA6 := hid (BA5.out.below hb); have L6 := hid (L5.out.below hb)
  clear hb HW5 A5 BA5 L5
  have l1 := L6.out.rn.ln; have l2 := L6.out.rn.ld; have l3 := H6.out.rn.ln; have l4 := H6.out.rn.ld
  go_wp2_with fail
  refine (eCmp_g L6.out.rn.rw H6.out.rn.rw (by omega) (by omega) (by omega) (by omega) L6.out.ef H6.out.ef (fun _ => L6.out.mono (by omega)) (fun _ => H6.out.mono (by omega))).mono ?_
  rintro e w7 ⟨r7, er7, rfl, hb, H7⟩
  obtain ⟨rfl, rfl⟩ := cmp_low (p := true) H7.out rfl
  have HW7 := hid (HW6.out.trans (hb.mono HW6.out.size)); have A7 := hid (A6.out.below hb); have BA7 := hid (BA6.out.below hb)
  clear hb HW6 A6 BA6 L6 H6 H7 l1 l2 l3 l4
  go_wp2_with fail
  refine eHigh_c.mono ?_
  rintro e w8 ⟨a3s, a3x, a3n, a3c, a3f, a3y, a3m, a3d, a3g, rfl, hb, hr⟩
  have HW8 := hid (HW7.out.trans (hb.mono HW7.out.size)); have A8 := hid (A7.out.below hb); have BA8 := hid (BA7.out.below hb); have L8 := hid hr
  clear hb hr HW7 A7 BA7
  go_wp2_with fail
  refine (eTextHigh_c L8.out).mono ?_
  rintro e w9 ⟨rfl, hb⟩
  have HW9 := hid (HW8.out.trans (hb.mono HW8.out.size)); have A9 := hid (A8.out.below hb); have BA9 := hid (BA8.out.below hb)
  clear hb HW8 A8 BA8 L8
  go_wp2_with fail
  refine (num4_c (z := 3) (by decide) (by decide)).mono ?_
  rintro e w10 ⟨a4s, a4x, a4n, a4c, a4f, a4y, a4m, a4d, a4g, rfl, hb, H10⟩
  have HW10 := hid (HW9.out.trans (hb.mono HW9.out.size)); have A10 := hid (A9.out.below hb); have BA10 := hid (BA9.out.below hb)
  clear hb HW9 A9 BA9
  go_wp2_with fail
  refine (num4_c (z := 4) (by decide) (by decide)).mono ?_
  rintro e w11 ⟨b4s, b4x, b4n, b4c, b4f, b4y, b4m, b4d, b4g, rfl, hb, H11⟩
  have HW11 := hid (HW10.out.trans (hb.mono HW10.out.size)); have A11 := hid (A10.out.below hb); have BA11 := hid (BA10.out.below hb); have L11 := hid (H10.out.below hb)
  clear hb HW10 A10 BA10 H10
  have l1 := L11.out.rn.ln; have l2 := L11.out.rn.ld; have l3 := H11.out.rn.ln; have l4 := H11.out.rn.ld
  go_wp2_with fail
  refine (eMax_g L11.out.rn.rw H11.out.rn.rw (by omega) (by omega) (by omega) (by omega) L11.out.ef H11.out.ef (fun _ => L11.out.mono (by omega)) (fun _ => H11.out.mono (by omega))).mono ?_
  rintro e w12 ⟨ui, us, ux, un, uc, uf, uy, um, ud, ug, uer, rfl, hb, H12⟩
  obtain ⟨rfl, rfl, hB⟩ : ui = 0 ∧ uer = 0 ∧ En 2000 w12 0 us ux un uc uf uy um ud ug ((4 : Int) : Rat) := by
    rcases H12.out with ⟨h1, _⟩ | ⟨_, h1, q, h2, h3⟩
    · cases h1
    · obtain ⟨e1, e2⟩ := max_34 h2
      subst e1 e2
      exact ⟨rfl, h1, h3⟩
  have HW12 := hid (below_alloc (HW11.out.trans (hb.mono HW11.out.size)) (.cells #[.int .i64 0, .bool us, .slice ux un uc, .slice uy um ud] 39)); have A12 := hid ((A11.out.below hb).alloc (.cells #[.int .i64 0, .bool us, .slice ux un uc, .slice uy um ud] 39)); have BA12 := hid ((BA11.out.below hb).alloc (.cells #[.int .i64 0, .bool us, .slice ux un uc, .slice uy um ud] 39)); have B12 := hid (hB.alloc (.cells #[.int .i64 0, .bool us, .slice ux un uc, .slice uy um ud] 39)); have BB12 := hid (bx4_at w12 (.int .i64 0) (.bool us) (.slice ux un uc) (.slice uy um ud) 39)
  clear hb hB H12 HW11 A11 BA11 L11 H11 l1 l2 l3 l4
  go_upto_region 5 with fail
  generalize w12.alloc (.cells #[.int .i64 0, .bool us, .slice ux un uc, .slice uy um ud] 39) = w13 at *
  generalize w12.heap.size = bB at *
  obtain ⟨za, a0, a1, a2, a3⟩ := BA12.out
  obtain ⟨zb, b0, b1, b2, b3⟩ := BB12.out
  have CH1 : Hid (∀ W : World, Calls Tryz.prog 59 #[] W fun e w' => ∃ s x n c f y m d g, e = .returned (.agg #[.int .i64 1, .bool s, .slice x n c, .slice y m d]) ∧ Below W.heap.size W w' ∧ Hid (En 4 w' 1 s x n c f y m d g 0)) := fun W => eHigh_c
  have CL1 : Hid (∀ W : World, Calls Tryz.prog 56 #[] W fun e w' => ∃ s x n c f y m d g, e = .returned (.agg #[.int .i64 (-1), .bool s, .slice x n c, .slice y m d]) ∧ Below W.heap.size W w' ∧ Hid (En 4 w' (-1) s x n c f y m d g 0)) := fun W => eLow_c
  have CN1 : Hid (∀ W : World, Calls Tryz.prog 58 #[.int .i64 4] W fun e w' => ∃ s x n c f y m d g, e = .returned (.agg #[.int .i64 0, .bool s, .slice x n c, .slice y m d]) ∧ Below W.heap.size W w' ∧ Hid (En 4 w' 0 s x n c f y m d g ((4 : Int) : Rat))) := fun W => num4_c (by decide) (by decide)
  have CRL : Hid (∀ W : World, Calls Tryz.prog 62 #[] W fun e w' => ∃ s x n c d y m c' g, e = .returned (.agg #[.int .i64 (-1), .bool s, .slice x n c, .slice y m c']) ∧ Below W.heap.size W w' ∧ Hid (n ≤ 2 ∧ m ≤ 2 ∧ Fn w' (-1) s x n d y m g 0)) := fun W => xLow_c
  have CRH : Hid (∀ W : World, Calls Tryz.prog 63 #[] W fun e w' => ∃ s x n c d y m c' g, e = .returned (.agg #[.int .i64 1, .bool s, .slice x n c, .slice y m c']) ∧ Below W.heap.size W w' ∧ Hid (n ≤ 2 ∧ m ≤ 2 ∧ Fn w' 1 s x n d y m g 0)) := fun W => xHigh_c
  have CTO : Hid (∀ (W : World) (i : Int) (s : Bool) (x : Option Addr) (n c : Nat) (d : Nat → Int) (y : Option Addr) (m e : Nat) (g : Nat → Int), n ≤ 2 → m ≤ 2 → Fn W i s x n d y m g 0 → Calls Tryz.prog 61 #[.agg #[.int .i64 i, .bool s, .slice x n c, .slice y m e]] W fun en w' => ∃ z k c' f z2 k2 c2 f2, en = .returned (.agg #[.int .i64 i, .bool s, .slice z k c', .slice z2 k2 c2]) ∧ Below W.heap.size W w' ∧ Hid (En 4 w' i s z k c' f z2 k2 c2 f2 0)) := fun W i s x n c d y m e g l1 l2 k1 => (xTo_c k1 (by omega) (by omega)).mono (fun _ _ ⟨z, k, c', f, z2, k2, c2, f2, j1, j2, j3⟩ => ⟨z, k, c', f, z2, k2, c2, f2, j1, j2, j3.out.mono (by omega)⟩)
  have CS : Hid (∀ (W : World) (i : Int) (s : Bool) (x : Option Addr) (n c : Nat) (f : Nat → Int) (y : Option Addr) (m d : Nat) (g : Nat → Int) (s' : Bool) (x' : Option Addr) (n' c' : Nat) (f' : Nat → Int) (y' : Option Addr) (m' d' : Nat) (g' : Nat → Int) (q : Rat), En 2000 W i s x n c f y m d g q → En 2000 W i s' x' n' c' f' y' m' d' g' q → Calls Tryz.prog 27 #[.agg #[.int .i64 i, .bool s, .slice x n c, .slice y m d], .agg #[.int .i64 i, .bool s', .slice x' n' c', .slice y' m' d']] W fun e w' => e = .returned (.bool true) ∧ Below W.heap.size W w') := fun W i s x n c f y m d g s' x' n' c' f' y' m' d' g' q k1 k2 => xSame_of (fun W' hW => (rSame_n (k1.below hW).rn (k2.below hW).rn (by omega) (by omega)).mono (fun e w' ⟨j1, j2⟩ => ⟨by rw [j1]; simp, j2⟩))
  have CF : Hid (∀ W : World, Calls Tryz.prog 21 #[.agg #[.int .i64 1, .bool false, .slice none 0 0, .slice none 0 0]] W fun e w' => e = .returned (.bool false) ∧ Below W.heap.size W w') := fun W => by
    have h := eForm_c (i := 1) (s := false) (⟨Rd.zero, (fun j hj => by omega), by omega, (fun _ => by omega), Rd.zero, (fun j hj => by omega), by omega, (fun _ => by omega)⟩ : Rw W none 0 0 (fun _ => 0) none 0 0 (fun _ => 0)) (by omega) (by omega)
    rw [ef_bad] at h
    exact h
  go_wp2
  go_region_held3 (fun w' => w'.cell? ⟨bA, 0, none⟩ = some (.int .i64 1) ∧ w'.cell? ⟨bA, 1, none⟩ = some (.bool ps) ∧ w'.cell? ⟨bA, 2, none⟩ = some (.slice px pn pc) ∧ w'.cell? ⟨bA, 3, none⟩ = some (.slice py pm pd) ∧ w'.cell? ⟨bB, 0, none⟩ = some (.int .i64 0) ∧ w'.cell? ⟨bB, 1, none⟩ = some (.bool us) ∧ w'.cell? ⟨bB, 2, none⟩ = some (.slice ux un uc) ∧ w'.cell? ⟨bB, 3, none⟩ = some (.slice uy um ud))
    (refine ⟨?_, ?_, ?_, ?_, ?_, ?_, ?_, ?_⟩ <;> repeat (with_reducible first | assumption | refine kCd ?_ | refine kCa ?_ | refine kCb (by assumption) ?_))
    (first
      | (go_at_call 59; with_reducible refine (CH1.out _).mono ?_; rintro e v1 ⟨hs, hx, hn, hc, hf, hy, hm, hd, hg, rfl, hv1, HH⟩)
      | (go_at_call 27; with_reducible refine (CS.out _ 1 ps px pn pc pf py pm pd pg hs hx hn hc hf hy hm hd hg 0 (by repeat (with_reducible first | exact A12.out.mono (by omega) | exact A12.out | refine kEnd ?_ | refine kEnb (by assumption) ?_)) (by repeat (with_reducible first | exact HH.out.mono (by omega) | exact HH.out | refine kEnd ?_ | refine kEnb (by assumption) ?_))).mono ?_; rintro e v2 ⟨rfl, hv2⟩)
      | (go_at_call 58; with_reducible refine (CN1.out _).mono ?_; rintro e v3 ⟨ks, kx, kn, kc, kf, ky, km, kd, kg, rfl, hv3, HK⟩)
      | (go_at_call 27; with_reducible refine (CS.out _ 0 us ux un uc uf uy um ud ug ks kx kn kc kf ky km kd kg ((4 : Int) : Rat) (by repeat (with_reducible first | exact B12.out.mono (by omega) | exact B12.out | refine kEnd ?_ | refine kEnb (by assumption) ?_)) (by repeat (with_reducible first | exact HK.out.mono (by omega) | exact HK.out | refine kEnd ?_ | refine kEnb (by assumption) ?_))).mono ?_; rintro e v4 ⟨rfl, hv4⟩)
      | (go_at_call 56; with_reducible refine (CL1.out _).mono ?_; rintro e v5 ⟨ls, lx, ln, lc, lf, ly, lm, ld, lg, rfl, hv5, HL⟩)
      | (go_at_call 62; with_reducible refine (CRL.out _).mono ?_; rintro e v6 ⟨rs, rx, rn, rc, rf, ry, rm, rd, rg, rfl, hv6, HRL⟩)
      | (go_at_call 61; with_reducible refine (CTO.out _ (-1) rs rx rn rc rf ry rm rd rg HRL.out.1 HRL.out.2.1 (by repeat (with_reducible first | exact HRL.out.2.2 | refine kFnd ?_ | refine kFnb (by assumption) ?_))).mono ?_; rintro e v7 ⟨tx, tn, tc, tf, ty, tm, td, tg, rfl, hv7, HT⟩)
      | (go_at_call 27; with_reducible refine (CS.out _ (-1) ls lx ln lc lf ly lm ld lg rs tx tn tc tf ty tm td tg 0 (by repeat (with_reducible first | exact HL.out.mono (by omega) | exact HL.out | refine kEnd ?_ | refine kEnb (by assumption) ?_)) (by repeat (with_reducible first | exact HT.out.mono (by omega) | exact HT.out | refine kEnd ?_ | refine kEnb (by assumption) ?_))).mono ?_; rintro e v8 ⟨rfl, hv8⟩)
      | (go_at_call 63; with_reducible refine (CRH.out _).mono ?_; rintro e v9 ⟨js, jx, jn, jc, jf, jy, jm, jd, jg, rfl, hv9, HRH⟩)
      | (go_at_call 61; with_reducible refine (CTO.out _ 1 js jx jn jc jf jy jm jd jg HRH.out.1 HRH.out.2.1 (by repeat (with_reducible first | exact HRH.out.2.2 | refine kFnd ?_ | refine kFnb (by assumption) ?_))).mono ?_; rintro e v10 ⟨ox, on, oc, of', oy, om, od, og, rfl, hv10, HO⟩)
      | (go_at_call 27; with_reducible refine (CS.out _ 1 hs hx hn hc hf hy hm hd hg js ox on oc of' oy om od og 0 (by repeat (with_reducible first | exact HH.out.mono (by omega) | exact HH.out | refine kEnd ?_ | refine kEnb (by assumption) ?_)) (by repeat (with_reducible first | exact HO.out.mono (by omega) | exact HO.out | refine kEnd ?_ | refine kEnb (by assumption) ?_))).mono ?_; rintro e v11 ⟨rfl, hv11⟩)
      | (go_at_call 21; with_reducible refine (CF.out _).mono ?_; rintro e v12 ⟨rfl, hv12⟩))
  all_goals
    go_wp2
    go_ret
    exact ⟨rfl, HW12.out.trans (Below.mono (by repeat (with_reducible first | assumption | exact Below.refl _ _ | refine Below.drew ?_ | refine kBa ?_ | refine kBb (by assumption) ?_)) HW12.out.size)⟩
end Go.Proofs.YtclopblgdiahiaaGreatDoor
namespace Go.Proofs.YtclopblgdiahiaaGreatDoor
open Go.RowKit

/-- What a call answers that answers a bound, with the error k. -/
def OX (k : Int) (P : Int → Rat → Prop) (w' : World) (i : Int) (s : Bool) (x : Option Addr) (n c : Nat) (f : Nat → Int) (y : Option Addr) (m d : Nat) (g : Nat → Int) (er : Int) : Prop :=
  er = k ∧ (k ≠ 0 ∧ (i = 0 ∧ n = 0 ∧ m = 0 ∧ s = false) ∨ k = 0 ∧ ∃ q, P i q ∧ En 2000 w' i s x n c f y m d g q)
theorem OX.below {k P w w' i s x n c f y m d g er} (h : OX k P w i s x n c f y m d g er) (hb : Below w.heap.size w w') : OX k P w' i s x n c f y m d g er := by
  rcases h with ⟨h0, h | ⟨h1, q, h3, h4⟩⟩
  · exact ⟨h0, .inl h⟩
  · exact ⟨h0, .inr ⟨h1, q, h3, h4.below hb⟩⟩
theorem OX.alloc {k P w i s x n c f y m d g er} (h : OX k P w i s x n c f y m d g er) (o : Obj) : OX k P (w.alloc o) i s x n c f y m d g er := h.below (below_alloc (Below.refl _ _) o)
theorem ox_same {k P w i s x n c f y m d g er i' s' x' n' c' f' y' m' d' g' er'} (hu : ∀ i q i' q', P i q → P i' q' → i = i' ∧ q = q') (h : OX k P w i s x n c f y m d g er) (k' : OX k P w i' s' x' n' c' f' y' m' d' g' er') :
    Calls Tryz.prog 27 #[.agg #[.int .i64 i, .bool s, .slice x n c, .slice y m d], .agg #[.int .i64 i', .bool s', .slice x' n' c', .slice y' m' d']] w fun e w' => e = .returned (.bool true) ∧ Below w.heap.size w w' := by
  rcases h with ⟨_, ⟨h1, h3, h4, h5, h6⟩ | ⟨h1, q, h3, h4⟩⟩ <;> rcases k' with ⟨_, ⟨k1, k3, k4, k5, k6⟩ | ⟨k1, q', k3, k4⟩⟩
  · subst h3 h4 h5 h6 k3 k4 k5 k6
    exact xSame_of (fun W hW => sameNone_c)
  · exact absurd k1 h1
  · exact absurd h1 k1
  · obtain ⟨e1, e2⟩ := hu _ _ _ _ h3 k3
    subst e1 e2
    refine xSame_of (fun W hW => (rSame_n (h4.below hW).rn (k4.below hW).rn (by omega) (by omega)).mono ?_)
    rintro e w' ⟨rfl, hb⟩
    exact ⟨by simp, hb⟩
def MRes (k : Int) (P : Int → Rat → Prop) (w w' : World) (e : Ending) : Prop := ∃ i s x n c f y m d g er, e = .returned (.tuple #[.agg #[.int .i64 i, .bool s, .slice x n c, .slice y m d], .int .i64 er]) ∧ Below w.heap.size w w' ∧ Hid (OX k P w' i s x n c f y m d g er)
def kx (p : Bool) : Int := if p then 0 else 3
theorem ef0 (s : Bool) (f : Nat → Int) (n : Nat) (g : Nat → Int) (m : Nat) : efB 0 s f n g m = rfB s f n g m := by simp [efB]
theorem Rn.en0 {L w s x n c f y m d g q} (h : Rn L w s x n c f y m d g q) : En L w 0 s x n c f y m d g q := ⟨h, .inl rfl⟩
def POf (r : Rat) (j : Int) (q : Rat) : Prop := j = 0 ∧ q = r
def PNeg (i : Int) (a : Rat) (j : Int) (q : Rat) : Prop := j = -i ∧ q = -a
def PShift (i : Int) (a r : Rat) (j : Int) (q : Rat) : Prop := i ≠ 0 ∧ j = i ∧ q = a ∨ i = 0 ∧ j = 0 ∧ q = a + r
def PScale (i : Int) (a r : Rat) (neg : Bool) (j : Int) (q : Rat) : Prop := j = (if neg then -i else i) ∧ q = a * r
theorem POf.uniq {r i q i' q'} (h : POf r i q) (k : POf r i' q') : i = i' ∧ q = q' := ⟨by rw [h.1, k.1], by rw [h.2, k.2]⟩
theorem PNeg.uniq {a b i q i' q'} (h : PNeg a b i q) (k : PNeg a b i' q') : i = i' ∧ q = q' := ⟨by rw [h.1, k.1], by rw [h.2, k.2]⟩
theorem PScale.uniq {a b r s i q i' q'} (h : PScale a b r s i q) (k : PScale a b r s i' q') : i = i' ∧ q = q' := ⟨by rw [h.1, k.1], by rw [h.2, k.2]⟩
theorem PShift.uniq {a b r i q i' q'} (h : PShift a b r i q) (k : PShift a b r i' q') : i = i' ∧ q = q' := by
  rcases h with ⟨h1, h2, h3⟩ | ⟨h1, h2, h3⟩ <;> rcases k with ⟨k1, k2, k3⟩ | ⟨k1, k2, k3⟩
  · exact ⟨by rw [h2, k2], by rw [h3, k3]⟩
  · exact absurd k1 h1
  · exact absurd h1 k1
  · exact ⟨by rw [h2, k2], by rw [h3, k3]⟩

set_option maxRecDepth 100000 in
set_option maxHeartbeats 4000000 in
theorem eOf_g {w : World} {s2 : Bool} {x2 : Option Addr} {n2 c2 : Nat} {f2 : Nat → Int} {y2 : Option Addr} {m2 d2 : Nat} {g2 : Nat → Int} {p : Bool} {r : Rat} (h : Rw w x2 n2 c2 f2 y2 m2 d2 g2) (hn : n2 ≤ 100) (hm : m2 ≤ 100) (hp : rfB s2 f2 n2 g2 m2 = p) (hq : p = true → Rn 100 w s2 x2 n2 c2 f2 y2 m2 d2 g2 r) :
    Calls Tryz.prog 74 #[.agg #[.bool s2, .slice x2 n2 c2, .slice y2 m2 d2]] w fun e w' => MRes (kx p) (POf r) w w' e := by
  have k1 := (bx3_at w (.bool s2) (.slice x2 n2 c2) (.slice y2 m2 d2) 32).alloc (.cells #[.int .i64 0, .bool false, .slice none 0 0, .slice none 0 0] 39)
  have k5 := ob4_new (w.alloc (.cells #[.bool s2, .slice x2 n2 c2, .slice y2 m2 d2] 32)) 39
  rw [size_alloc1] at k5
  have k3 := below_alloc (below_alloc (Below.refl w.heap.size w) (.cells #[.bool s2, .slice x2 n2 c2, .slice y2 m2 d2] 32)) (.cells #[.int .i64 0, .bool false, .slice none 0 0, .slice none 0 0] 39)
  have HR := hid (h.below k3); have HP := hid hp; have HQ := hid (fun k => (hq k).below k3)
  clear h hp hq
  go_enter Tryz.func74, Tryz.ntmps74
  go_upto_region 1 with fail
  generalize (w.alloc (.cells #[.bool s2, .slice x2 n2 c2, .slice y2 m2 d2] 32)).alloc (.cells #[.int .i64 0, .bool false, .slice none 0 0, .slice none 0 0] 39) = w1 at *
  have HW := hid k3; have OB := hid k5; have BB := hid k1
  clear k1 k3 k5
  obtain ⟨zb, b0, b1, b2⟩ := BB.out
  go_wp2_with fail
  refine enumber_c.mono ?_
  rintro e w2 ⟨rfl, hb⟩
  have HB2 := hid hb
  clear hb zb b0 b1 b2
  have cf := fun (t : TypeId) => allForm1_c (i := 0) (bx4_at w2 (.int .i64 0) (.bool s2) (.slice x2 n2 c2) (.slice y2 m2 d2) t) ((HR.out.below HB2.out).alloc _) (by omega) (by omega)
  rw [ef0, HP.out] at cf
  have CF := hid cf
  clear cf
  go_wp2_with fail
  refine (CF.out _).mono ?_
  rintro e w3 ⟨rfl, hb⟩
  have HB3 : Hid (Below w1.heap.size w1 w3) := HB2.out.trans (((below_alloc (Below.refl w2.heap.size w2) _).trans (hb.mono (by simp))).mono HB2.out.size)
  have HB := hid (HW.out.trans (HB3.out.mono HW.out.size))
  clear hb CF
  cases p
  · obtain ⟨hz, z0, z1, z2, z3, zf⟩ := OB.out.below HB3.out
    go_wp2
    exact bodyPost_ret (v := .tuple #[.agg #[.int .i64 0, .bool false, .slice none 0 0, .slice none 0 0], .int .i64 3]) (by simp [results, Tryz.results74, go_sem, z0, z1, z2, z3]) rfl ⟨0, false, none, 0, 0, fun _ => 0, none, 0, 0, fun _ => 0, 3, rfl, below_st4 HB.out (by omega), rfl, .inl ⟨by decide, rfl, rfl, rfl, rfl⟩⟩
  have E3 := hid ((HQ.out rfl).below HB3.out)
  obtain ⟨zb, b0, b1, b2⟩ := BB.out.below HB3.out
  go_wp2_with fail
  refine enumber_c.mono ?_
  rintro e w4 ⟨rfl, hb⟩
  have HB4 := hid (HB3.out.trans (hb.mono HB3.out.size)); have E4 := hid (E3.out.below hb)
  clear hb zb b0 b1 b2
  go_wp2_with fail
  refine (eCopy_c E4.out.en0 (by omega)).mono ?_
  rintro e w5 ⟨s5, x5, n5, c5, f5, y5, m5, d5, g5, rfl, hb, he⟩
  have HB5 := hid (HW.out.trans ((HB4.out.trans (hb.mono HB4.out.size)).mono HW.out.size)); have OB5 := hid ((OB.out.below HB4.out).below hb); have E5 := hid he
  clear hb he
  obtain ⟨hz, z0, z1, z2, z3, zf⟩ := OB5.out
  go_wp2
  exact bodyPost_ret (v := .tuple #[.agg #[.int .i64 0, .bool s5, .slice x5 n5 c5, .slice y5 m5 d5], .int .i64 0]) (by simp [results, Tryz.results74, go_sem, z0, z1, z2, z3]) rfl ⟨0, s5, x5, n5, c5, f5, y5, m5, d5, g5, 0, rfl, below_st4 HB5.out (by omega), rfl, .inr ⟨rfl, r, ⟨rfl, rfl⟩, ⟨OB5.out.rn (E5.out.rn.mono (by omega)), .inl rfl⟩⟩⟩

set_option maxRecDepth 100000 in
set_option maxHeartbeats 4000000 in
theorem eNeg_g {w : World} {i : Int} {s : Bool} {x : Option Addr} {n c : Nat} {f : Nat → Int} {y : Option Addr} {m d : Nat} {g : Nat → Int} {p : Bool} {q : Rat} (h : Rw w x n c f y m d g) (hn : n ≤ 100) (hm : m ≤ 100) (hp : efB i s f n g m = p) (hq : p = true → En 100 w i s x n c f y m d g q) :
    Calls Tryz.prog 26 #[.agg #[.int .i64 i, .bool s, .slice x n c, .slice y m d]] w fun e w' => MRes (kx p) (PNeg i q) w w' e := by
  have k1 := (bx4_at w (.int .i64 i) (.bool s) (.slice x n c) (.slice y m d) 39).alloc (.cells #[.int .i64 0, .bool false, .slice none 0 0, .slice none 0 0] 39)
  have k5 := ob4_new (w.alloc (.cells #[.int .i64 i, .bool s, .slice x n c, .slice y m d] 39)) 39
  rw [size_alloc1] at k5
  have k3 := below_alloc (below_alloc (Below.refl w.heap.size w) (.cells #[.int .i64 i, .bool s, .slice x n c, .slice y m d] 39)) (.cells #[.int .i64 0, .bool false, .slice none 0 0, .slice none 0 0] 39)
  have HR := hid (h.below k3); have HP := hid hp; have HQ := hid (fun k => (hq k).below k3)
  clear h hp hq
  go_enter Tryz.func26, Tryz.ntmps26
  go_upto_region 1 with fail
  generalize (w.alloc (.cells #[.int .i64 i, .bool s, .slice x n c, .slice y m d] 39)).alloc (.cells #[.int .i64 0, .bool false, .slice none 0 0, .slice none 0 0] 39) = w1 at *
  have HW := hid k3; have OB := hid k5; have BB := hid k1
  clear k1 k3 k5
  obtain ⟨zb, b0, b1, b2, b3⟩ := BB.out
  have cf := fun (t : TypeId) => allForm1_c (i := i) (bx4_at w1 (.int .i64 i) (.bool s) (.slice x n c) (.slice y m d) t) (HR.out.alloc _) (by omega) (by omega)
  rw [HP.out] at cf
  have CF := hid cf
  clear cf
  go_wp2_with fail
  refine (CF.out _).mono ?_
  rintro e w3 ⟨rfl, hb⟩
  have HB3 : Hid (Below w1.heap.size w1 w3) := (below_alloc (Below.refl w1.heap.size w1) _).trans (hb.mono (by simp))
  have HB := hid (HW.out.trans (HB3.out.mono HW.out.size))
  clear hb CF zb b0 b1 b2 b3
  cases p
  · obtain ⟨hz, z0, z1, z2, z3, zf⟩ := OB.out.below HB3.out
    go_wp2
    exact bodyPost_ret (v := .tuple #[.agg #[.int .i64 0, .bool false, .slice none 0 0, .slice none 0 0], .int .i64 3]) (by simp [results, Tryz.results26, go_sem, z0, z1, z2, z3]) rfl ⟨0, false, none, 0, 0, fun _ => 0, none, 0, 0, fun _ => 0, 3, rfl, below_st4 HB.out (by omega), rfl, .inl ⟨by decide, rfl, rfl, rfl, rfl⟩⟩
  have E3 := hid ((HQ.out rfl).below HB3.out)
  have OB3 := hid (OB.out.below HB3.out)
  obtain ⟨zb, b0, b1, b2, b3⟩ := BB.out.below HB3.out
  have hi3 : i = 0 ∨ (i = -1 ∨ i = 1) ∧ q = 0 := E3.out.inf
  rcases hi3 with rfl | ⟨rfl | rfl, hq0⟩
  · go_wp2_with fail
    refine (rNeg_n E3.out.rn (by omega)).mono ?_
    rintro e w4 ⟨s4, x4, n4, c4, f4, y4, m4, d4, g4, rfl, hb, hr⟩
    have HB4 := hid (below_alloc (HB.out.trans (hb.mono HB.out.size)) (.cells #[.bool s4, .slice x4 n4 c4, .slice y4 m4 d4] 32)); have OB4 := hid ((OB3.out.below hb).alloc (.cells #[.bool s4, .slice x4 n4 c4, .slice y4 m4 d4] 32)); have R4 := hid (hr.alloc (.cells #[.bool s4, .slice x4 n4 c4, .slice y4 m4 d4] 32)); have BX4 := hid (bx3_at w4 (.bool s4) (.slice x4 n4 c4) (.slice y4 m4 d4) 32)
    clear hb hr zb b0 b1 b2 b3
    obtain ⟨zx, x0, x1, x2'⟩ := BX4.out
    go_wp2_with fail
    generalize w4.alloc (.cells #[.bool s4, .slice x4 n4 c4, .slice y4 m4 d4] 32) = w5 at *
    generalize w4.heap.size = b5 at *
    refine enumber_c.mono ?_
    rintro e w6 ⟨rfl, hb⟩
    have HB6 := hid (HB4.out.trans (hb.mono HB4.out.size)); have OB6 := hid (OB4.out.below hb); have R6 := hid (R4.out.below hb)
    clear hb zx x0 x1 x2'
    obtain ⟨hz, z0, z1, z2, z3, zf⟩ := OB6.out
    go_wp2
    exact bodyPost_ret (v := .tuple #[.agg #[.int .i64 0, .bool s4, .slice x4 n4 c4, .slice y4 m4 d4], .int .i64 0]) (by simp [results, Tryz.results26, go_sem, z0, z1, z2, z3]) rfl ⟨0, s4, x4, n4, c4, f4, y4, m4, d4, g4, 0, rfl, below_st4 HB6.out (by omega), rfl, .inr ⟨rfl, -q, ⟨rfl, rfl⟩, ⟨OB6.out.rn (R6.out.mono (by omega)), .inl rfl⟩⟩⟩
  all_goals
    have HQ0 : Hid (-q = 0) := by show -q = 0; rw [hq0]; exact Rat.neg_zero
    clear hq0
    go_wp2_with fail
    refine eInf_c.mono ?_
    rintro e w4 ⟨s4, x4, n4, c4, f4, y4, m4, d4, g4, rfl, hb, hr⟩
    have HB4 := hid (HB.out.trans (hb.mono HB.out.size)); have OB4 := hid (OB3.out.below hb); have R4 := hid hr
    clear hb hr zb b0 b1 b2 b3
    obtain ⟨hz, z0, z1, z2, z3, zf⟩ := OB4.out
    go_wp2
    first
      | exact bodyPost_ret (v := .tuple #[.agg #[.int .i64 1, .bool s4, .slice x4 n4 c4, .slice y4 m4 d4], .int .i64 0]) (by simp [results, Tryz.results26, go_sem, z0, z1, z2, z3]) rfl ⟨1, s4, x4, n4, c4, f4, y4, m4, d4, g4, 0, rfl, below_st4 HB4.out (by omega), rfl, .inr ⟨rfl, 0, ⟨rfl, HQ0.out.symm⟩, ⟨OB4.out.rn (R4.out.mono (by omega)), .inr ⟨by decide, rfl⟩⟩⟩⟩
      | exact bodyPost_ret (v := .tuple #[.agg #[.int .i64 (-1), .bool s4, .slice x4 n4 c4, .slice y4 m4 d4], .int .i64 0]) (by simp [results, Tryz.results26, go_sem, z0, z1, z2, z3]) rfl ⟨-1, s4, x4, n4, c4, f4, y4, m4, d4, g4, 0, rfl, below_st4 HB4.out (by omega), rfl, .inr ⟨rfl, 0, ⟨rfl, HQ0.out.symm⟩, ⟨OB4.out.rn (R4.out.mono (by omega)), .inr ⟨by decide, rfl⟩⟩⟩⟩

set_option maxRecDepth 100000 in
set_option maxHeartbeats 4000000 in
theorem eShift_g {w : World} {i : Int} {s : Bool} {x : Option Addr} {n c : Nat} {f : Nat → Int} {y : Option Addr} {m d : Nat} {g : Nat → Int} {s2 : Bool} {x2 : Option Addr} {n2 c2 : Nat} {f2 : Nat → Int} {y2 : Option Addr} {m2 d2 : Nat} {g2 : Nat → Int} {p1 p2 : Bool} {q r : Rat} (h1 : Rw w x n c f y m d g) (h2 : Rw w x2 n2 c2 f2 y2 m2 d2 g2) (hn : n ≤ 100) (hm : m ≤ 100) (hn2 : n2 ≤ 100) (hm2 : m2 ≤ 100) (hp1 : efB i s f n g m = p1) (hp2 : rfB s2 f2 n2 g2 m2 = p2) (hq1 : p1 = true → En 100 w i s x n c f y m d g q) (hq2 : p2 = true → Rn 100 w s2 x2 n2 c2 f2 y2 m2 d2 g2 r) :
    Calls Tryz.prog 25 #[.agg #[.int .i64 i, .bool s, .slice x n c, .slice y m d], .agg #[.bool s2, .slice x2 n2 c2, .slice y2 m2 d2]] w fun e w' => MRes (kx (p1 && p2)) (PShift i q r) w w' e := by
  have k1 := ((bx4_at w (.int .i64 i) (.bool s) (.slice x n c) (.slice y m d) 39).alloc (.cells #[.bool s2, .slice x2 n2 c2, .slice y2 m2 d2] 32)).alloc (.cells #[.int .i64 0, .bool false, .slice none 0 0, .slice none 0 0] 39)
  have k2 := (bx3_at (w.alloc (.cells #[.int .i64 i, .bool s, .slice x n c, .slice y m d] 39)) (.bool s2) (.slice x2 n2 c2) (.slice y2 m2 d2) 32).alloc (.cells #[.int .i64 0, .bool false, .slice none 0 0, .slice none 0 0] 39)
  rw [size_alloc1] at k2
  have k5 := ob4_new ((w.alloc (.cells #[.int .i64 i, .bool s, .slice x n c, .slice y m d] 39)).alloc (.cells #[.bool s2, .slice x2 n2 c2, .slice y2 m2 d2] 32)) 39
  rw [size_alloc1, size_alloc1] at k5
  have k3 := below_alloc (below_alloc (below_alloc (Below.refl w.heap.size w) (.cells #[.int .i64 i, .bool s, .slice x n c, .slice y m d] 39)) (.cells #[.bool s2, .slice x2 n2 c2, .slice y2 m2 d2] 32)) (.cells #[.int .i64 0, .bool false, .slice none 0 0, .slice none 0 0] 39)
  have HR1 := hid (h1.below k3); have HR2 := hid (h2.below k3); have HP1 := hid hp1; have HP2 := hid hp2; have HQ1 := hid (fun k => (hq1 k).below k3); have HQ2 := hid (fun k => (hq2 k).below k3)
  clear h1 h2 hp1 hp2 hq1 hq2
  go_enter Tryz.func25, Tryz.ntmps25
  go_upto_region 1 with fail
  generalize ((w.alloc (.cells #[.int .i64 i, .bool s, .slice x n c, .slice y m d] 39)).alloc (.cells #[.bool s2, .slice x2 n2 c2, .slice y2 m2 d2] 32)).alloc (.cells #[.int .i64 0, .bool false, .slice none 0 0, .slice none 0 0] 39) = w1 at *
  have HW := hid k3; have OB := hid k5; have BA := hid k1; have BB := hid k2
  clear k1 k2 k3 k5
  obtain ⟨pp, hpp⟩ : ∃ pp, (p1 && p2) = pp := ⟨_, rfl⟩
  have HPP := hid hpp
  have CN : Hid (∀ W : World, Calls Tryz.prog 71 #[.agg #[.bool s2, .slice x2 n2 c2, .slice y2 m2 d2]] W fun e w' => e = .returned (.agg #[.int .i64 0, .bool s2, .slice x2 n2 c2, .slice y2 m2 d2]) ∧ Below W.heap.size W w') := fun W => enumber_c
  have CAF : Hid (∀ (W : World) (B : Nat), Li2 W B (.int .i64 i) (.bool s) (.slice x n c) (.slice y m d) (.int .i64 0) (.bool s2) (.slice x2 n2 c2) (.slice y2 m2 d2) → Below w1.heap.size w1 W → Calls Tryz.prog 68 #[.slice (some ⟨B, 0, none⟩) 2 2] W fun e w' => e = .returned (.bool pp) ∧ Below W.heap.size W w') := fun W B hB hW => by
    have := allForm2_c hB (HR1.out.below hW) (HR2.out.below hW) (by omega) (by omega) (by omega) (by omega)
    rw [ef0, HP1.out, HP2.out, HPP.out] at this
    exact this
  clear hpp
  go_cut [13] from 8 to 12 (fun u wx => ∃ (wy : World), wy = wx ∧ u = .bool (!pp) ∧ Below w1.heap.size w1 wy)
  case first =>
    obtain ⟨za, a0, a1, a2, a3⟩ := BA.out
    obtain ⟨zb, b0, b1, b2⟩ := BB.out
    go_region_held3 (fun w' => w'.cell? ⟨w.heap.size, 0, none⟩ = some (.int .i64 i) ∧ w'.cell? ⟨w.heap.size, 1, none⟩ = some (.bool s) ∧ w'.cell? ⟨w.heap.size, 2, none⟩ = some (.slice x n c) ∧ w'.cell? ⟨w.heap.size, 3, none⟩ = some (.slice y m d) ∧ w'.cell? ⟨w.heap.size + 1, 0, none⟩ = some (.bool s2) ∧ w'.cell? ⟨w.heap.size + 1, 1, none⟩ = some (.slice x2 n2 c2) ∧ w'.cell? ⟨w.heap.size + 1, 2, none⟩ = some (.slice y2 m2 d2))
      (refine ⟨?_, ?_, ?_, ?_, ?_, ?_, ?_⟩ <;> repeat (with_reducible first | assumption | refine kCd ?_ | refine kCa ?_ | refine kCb (by assumption) ?_))
      (first
        | (go_at_call 71; with_reducible refine (CN.out _).mono ?_; rintro e v5 ⟨rfl, hb5⟩)
        | (go_at_call 68; with_reducible refine (CAF.out _ _ (by repeat (with_reducible first | exact li2_at _ _ _ _ _ _ _ _ _ _ | refine kLid ?_)) (by repeat (with_reducible first | assumption | exact Below.refl _ _ | refine Below.drew ?_ | refine kBa ?_ | refine kBb (by assumption) ?_))).mono ?_; rintro e v6 ⟨rfl, hb6⟩))
    all_goals
      go_wp2_with fail
      go_meet
      exact ⟨_, rfl, rfl, (by repeat (with_reducible first | assumption | exact Below.refl _ _ | refine Below.drew ?_ | refine kBa ?_ | refine kBb (by assumption) ?_))⟩
  case rest =>
    obtain ⟨w3, rfl, rfl, hb⟩ := hcut
    have HB3 := hid hb
    have HB := hid (HW.out.trans (HB3.out.mono HW.out.size))
    have OB3 := hid (OB.out.below HB3.out)
    clear hb CN CAF
    cases pp
    · obtain ⟨hz, z0, z1, z2, z3, zf⟩ := OB3.out
      go_wp2
      exact bodyPost_ret (v := .tuple #[.agg #[.int .i64 0, .bool false, .slice none 0 0, .slice none 0 0], .int .i64 3]) (by simp [results, Tryz.results25, go_sem, z0, z1, z2, z3]) rfl ⟨0, false, none, 0, 0, fun _ => 0, none, 0, 0, fun _ => 0, 3, rfl, below_st4 HB.out (by omega), by rw [HPP.out]; rfl, .inl ⟨by rw [HPP.out]; exact (by decide : (3 : Int) ≠ 0), rfl, rfl, rfl, rfl⟩⟩
    have hpq : p1 = true ∧ p2 = true := by simpa using HPP.out
    have E3 := hid ((HQ1.out hpq.1).below HB3.out); have S3 := hid ((HQ2.out hpq.2).below HB3.out)
    have hi3 : i = 0 ∨ (i = -1 ∨ i = 1) ∧ q = 0 := E3.out.inf
    clear hpq
    obtain ⟨za, a0, a1, a2, a3⟩ := BA.out.below HB3.out
    obtain ⟨zb, b0, b1, b2⟩ := BB.out.below HB3.out
    rcases hi3 with rfl | ⟨hi, hq0⟩
    · go_wp2_with fail
      refine (rAdd_n E3.out.rn S3.out (by omega)).mono ?_
      rintro e w4 ⟨s4, x4, n4, c4, f4, y4, m4, d4, g4, rfl, hb, hr⟩
      have HB4 := hid (below_alloc (HB.out.trans (hb.mono HB.out.size)) (.cells #[.bool s4, .slice x4 n4 c4, .slice y4 m4 d4] 32)); have OB4 := hid ((OB3.out.below hb).alloc (.cells #[.bool s4, .slice x4 n4 c4, .slice y4 m4 d4] 32)); have R4 := hid (hr.alloc (.cells #[.bool s4, .slice x4 n4 c4, .slice y4 m4 d4] 32)); have BX4 := hid (bx3_at w4 (.bool s4) (.slice x4 n4 c4) (.slice y4 m4 d4) 32)
      clear hb hr za a0 a1 a2 a3 zb b0 b1 b2
      obtain ⟨zx, x0, x1, x2'⟩ := BX4.out
      go_wp2_with fail
      generalize w4.alloc (.cells #[.bool s4, .slice x4 n4 c4, .slice y4 m4 d4] 32) = w5 at *
      generalize w4.heap.size = b5 at *
      refine enumber_c.mono ?_
      rintro e w6 ⟨rfl, hb⟩
      have HB6 := hid (HB4.out.trans (hb.mono HB4.out.size)); have OB6 := hid (OB4.out.below hb); have R6 := hid (R4.out.below hb)
      clear hb zx x0 x1 x2'
      obtain ⟨hz, z0, z1, z2, z3, zf⟩ := OB6.out
      go_wp2
      exact bodyPost_ret (v := .tuple #[.agg #[.int .i64 0, .bool s4, .slice x4 n4 c4, .slice y4 m4 d4], .int .i64 0]) (by simp [results, Tryz.results25, go_sem, z0, z1, z2, z3]) rfl ⟨0, s4, x4, n4, c4, f4, y4, m4, d4, g4, 0, rfl, below_st4 HB6.out (by omega), by rw [HPP.out]; rfl, .inr ⟨by rw [HPP.out]; rfl, q + r, .inr ⟨rfl, rfl, rfl⟩, ⟨OB6.out.rn (R6.out.mono (by omega)), .inl rfl⟩⟩⟩
    · have hne : (i != 0) = true := by simp; omega
      have HI := hid hi; have HQ0 := hid hq0
      clear hi hq0
      go_wp2_with fail
      refine eInf_c.mono ?_
      rintro e w4 ⟨s4, x4, n4, c4, f4, y4, m4, d4, g4, rfl, hb, hr⟩
      have HB4 := hid (HB.out.trans (hb.mono HB.out.size)); have OB4 := hid (OB3.out.below hb); have R4 := hid hr
      clear hb hr za a0 a1 a2 a3 zb b0 b1 b2
      obtain ⟨hz, z0, z1, z2, z3, zf⟩ := OB4.out
      go_wp2
      exact bodyPost_ret (v := .tuple #[.agg #[.int .i64 i, .bool s4, .slice x4 n4 c4, .slice y4 m4 d4], .int .i64 0]) (by simp [results, Tryz.results25, go_sem, z0, z1, z2, z3]) rfl ⟨i, s4, x4, n4, c4, f4, y4, m4, d4, g4, 0, rfl, below_st4 HB4.out (by omega), by rw [HPP.out]; rfl, .inr ⟨by rw [HPP.out]; rfl, 0, .inl ⟨by have := HI.out; omega, rfl, HQ0.out.symm⟩, ⟨OB4.out.rn (R4.out.mono (by omega)), .inr ⟨HI.out, rfl⟩⟩⟩⟩

def ks (p : Bool) (n2 : Nat) : Int := if p then (if n2 = 0 then 4 else 0) else 3

set_option maxRecDepth 100000 in
set_option maxHeartbeats 4000000 in
theorem eScale_g {w : World} {i : Int} {s : Bool} {x : Option Addr} {n c : Nat} {f : Nat → Int} {y : Option Addr} {m d : Nat} {g : Nat → Int} {s2 : Bool} {x2 : Option Addr} {n2 c2 : Nat} {f2 : Nat → Int} {y2 : Option Addr} {m2 d2 : Nat} {g2 : Nat → Int} {p1 p2 : Bool} {q r : Rat} (h1 : Rw w x n c f y m d g) (h2 : Rw w x2 n2 c2 f2 y2 m2 d2 g2) (hn : n ≤ 100) (hm : m ≤ 100) (hn2 : n2 ≤ 100) (hm2 : m2 ≤ 100) (hp1 : efB i s f n g m = p1) (hp2 : rfB s2 f2 n2 g2 m2 = p2) (hq1 : p1 = true → En 100 w i s x n c f y m d g q) (hq2 : p2 = true → Rn 100 w s2 x2 n2 c2 f2 y2 m2 d2 g2 r) :
    Calls Tryz.prog 24 #[.agg #[.int .i64 i, .bool s, .slice x n c, .slice y m d], .agg #[.bool s2, .slice x2 n2 c2, .slice y2 m2 d2]] w fun e w' => MRes (ks (p1 && p2) n2) (PScale i q r s2) w w' e := by
  have k1 := ((bx4_at w (.int .i64 i) (.bool s) (.slice x n c) (.slice y m d) 39).alloc (.cells #[.bool s2, .slice x2 n2 c2, .slice y2 m2 d2] 32)).alloc (.cells #[.int .i64 0, .bool false, .slice none 0 0, .slice none 0 0] 39)
  have k2 := (bx3_at (w.alloc (.cells #[.int .i64 i, .bool s, .slice x n c, .slice y m d] 39)) (.bool s2) (.slice x2 n2 c2) (.slice y2 m2 d2) 32).alloc (.cells #[.int .i64 0, .bool false, .slice none 0 0, .slice none 0 0] 39)
  rw [size_alloc1] at k2
  have k5 := ob4_new ((w.alloc (.cells #[.int .i64 i, .bool s, .slice x n c, .slice y m d] 39)).alloc (.cells #[.bool s2, .slice x2 n2 c2, .slice y2 m2 d2] 32)) 39
  rw [size_alloc1, size_alloc1] at k5
  have k3 := below_alloc (below_alloc (below_alloc (Below.refl w.heap.size w) (.cells #[.int .i64 i, .bool s, .slice x n c, .slice y m d] 39)) (.cells #[.bool s2, .slice x2 n2 c2, .slice y2 m2 d2] 32)) (.cells #[.int .i64 0, .bool false, .slice none 0 0, .slice none 0 0] 39)
  have HR1 := hid (h1.below k3); have HR2 := hid (h2.below k3); have HP1 := hid hp1; have HP2 := hid hp2; have HQ1 := hid (fun k => (hq1 k).below k3); have HQ2 := hid (fun k => (hq2 k).below k3)
  clear h1 h2 hp1 hp2 hq1 hq2
  go_enter Tryz.func24, Tryz.ntmps24
  go_upto_region 1 with fail
  generalize ((w.alloc (.cells #[.int .i64 i, .bool s, .slice x n c, .slice y m d] 39)).alloc (.cells #[.bool s2, .slice x2 n2 c2, .slice y2 m2 d2] 32)).alloc (.cells #[.int .i64 0, .bool false, .slice none 0 0, .slice none 0 0] 39) = w1 at *
  have HW := hid k3; have OB := hid k5; have BA := hid k1; have BB := hid k2
  clear k1 k2 k3 k5
  obtain ⟨pp, hpp⟩ : ∃ pp, (p1 && p2) = pp := ⟨_, rfl⟩
  have HPP := hid hpp
  have CN : Hid (∀ W : World, Calls Tryz.prog 71 #[.agg #[.bool s2, .slice x2 n2 c2, .slice y2 m2 d2]] W fun e w' => e = .returned (.agg #[.int .i64 0, .bool s2, .slice x2 n2 c2, .slice y2 m2 d2]) ∧ Below W.heap.size W w') := fun W => enumber_c
  have CAF : Hid (∀ (W : World) (B : Nat), Li2 W B (.int .i64 i) (.bool s) (.slice x n c) (.slice y m d) (.int .i64 0) (.bool s2) (.slice x2 n2 c2) (.slice y2 m2 d2) → Below w1.heap.size w1 W → Calls Tryz.prog 68 #[.slice (some ⟨B, 0, none⟩) 2 2] W fun e w' => e = .returned (.bool pp) ∧ Below W.heap.size W w') := fun W B hB hW => by
    have := allForm2_c hB (HR1.out.below hW) (HR2.out.below hW) (by omega) (by omega) (by omega) (by omega)
    rw [ef0, HP1.out, HP2.out, HPP.out] at this
    exact this
  clear hpp
  go_cut [8] from 9 to 14 (fun u wx => ∃ (wy : World), wy = wx ∧ u = .bool (!pp) ∧ Below w1.heap.size w1 wy)
  case first =>
    obtain ⟨za, a0, a1, a2, a3⟩ := BA.out
    obtain ⟨zb, b0, b1, b2⟩ := BB.out
    go_region_held3 (fun w' => w'.cell? ⟨w.heap.size, 0, none⟩ = some (.int .i64 i) ∧ w'.cell? ⟨w.heap.size, 1, none⟩ = some (.bool s) ∧ w'.cell? ⟨w.heap.size, 2, none⟩ = some (.slice x n c) ∧ w'.cell? ⟨w.heap.size, 3, none⟩ = some (.slice y m d) ∧ w'.cell? ⟨w.heap.size + 1, 0, none⟩ = some (.bool s2) ∧ w'.cell? ⟨w.heap.size + 1, 1, none⟩ = some (.slice x2 n2 c2) ∧ w'.cell? ⟨w.heap.size + 1, 2, none⟩ = some (.slice y2 m2 d2))
      (refine ⟨?_, ?_, ?_, ?_, ?_, ?_, ?_⟩ <;> repeat (with_reducible first | assumption | refine kCd ?_ | refine kCa ?_ | refine kCb (by assumption) ?_))
      (first
        | (go_at_call 71; with_reducible refine (CN.out _).mono ?_; rintro e v5 ⟨rfl, hb5⟩)
        | (go_at_call 68; with_reducible refine (CAF.out _ _ (by repeat (with_reducible first | exact li2_at _ _ _ _ _ _ _ _ _ _ | refine kLid ?_)) (by repeat (with_reducible first | assumption | exact Below.refl _ _ | refine Below.drew ?_ | refine kBa ?_ | refine kBb (by assumption) ?_))).mono ?_; rintro e v6 ⟨rfl, hb6⟩))
    all_goals
      go_wp2_with fail
      go_meet
      exact ⟨_, rfl, rfl, (by repeat (with_reducible first | assumption | exact Below.refl _ _ | refine Below.drew ?_ | refine kBa ?_ | refine kBb (by assumption) ?_))⟩
  case rest =>
    obtain ⟨w3, rfl, rfl, hb⟩ := hcut
    have HB3 := hid hb
    have HB := hid (HW.out.trans (HB3.out.mono HW.out.size))
    have OB3 := hid (OB.out.below HB3.out)
    clear hb CN CAF
    cases pp
    · obtain ⟨hz, z0, z1, z2, z3, zf⟩ := OB3.out
      go_wp2
      exact bodyPost_ret (v := .tuple #[.agg #[.int .i64 0, .bool false, .slice none 0 0, .slice none 0 0], .int .i64 3]) (by simp [results, Tryz.results24, go_sem, z0, z1, z2, z3]) rfl ⟨0, false, none, 0, 0, fun _ => 0, none, 0, 0, fun _ => 0, 3, rfl, below_st4 HB.out (by omega), by rw [HPP.out]; rfl, .inl ⟨by rw [HPP.out]; exact (by decide : (3 : Int) ≠ 0), rfl, rfl, rfl, rfl⟩⟩
    have hpq : p1 = true ∧ p2 = true := by simpa using HPP.out
    have E3 := hid ((HQ1.out hpq.1).below HB3.out); have S3 := hid ((HQ2.out hpq.2).below HB3.out)
    have hi3 : i = 0 ∨ (i = -1 ∨ i = 1) ∧ q = 0 := E3.out.inf
    clear hpq
    obtain ⟨za, a0, a1, a2, a3⟩ := BA.out.below HB3.out
    obtain ⟨zb, b0, b1, b2⟩ := BB.out.below HB3.out
    go_wp2_with fail
    refine eIsZero_c.mono ?_
    rintro e w7 ⟨rfl, hb⟩
    have HB7 := hid (HB.out.trans (hb.mono HB.out.size)); have HB37 := hid (HB3.out.trans (hb.mono HB3.out.size)); have OB7 := hid (OB3.out.below hb); have E7 := hid (E3.out.below hb); have S7 := hid (S3.out.below hb)
    clear hb za a0 a1 a2 a3 zb b0 b1 b2 HB OB3 E3 S3
    by_cases hz2 : n2 = 0
    · rw [decide_eq_true hz2]
      have HK : Hid (ks (p1 && p2) n2 = 4) := by show ks (p1 && p2) n2 = 4; rw [HPP.out, ks, if_pos rfl, if_pos hz2]
      clear hz2
      obtain ⟨hz, z0, z1, z2, z3, zf⟩ := OB7.out
      go_wp2
      exact bodyPost_ret (v := .tuple #[.agg #[.int .i64 0, .bool false, .slice none 0 0, .slice none 0 0], .int .i64 4]) (by simp [results, Tryz.results24, go_sem, z0, z1, z2, z3]) rfl ⟨0, false, none, 0, 0, fun _ => 0, none, 0, 0, fun _ => 0, 4, rfl, below_st4 HB7.out (by omega), HK.out.symm, .inl ⟨by rw [HK.out]; decide, rfl, rfl, rfl, rfl⟩⟩
    rw [decide_eq_false hz2]
    have HK : Hid (ks (p1 && p2) n2 = 0) := by show ks (p1 && p2) n2 = 0; rw [HPP.out, ks, if_pos rfl, if_neg hz2]
    clear hz2
    obtain ⟨za, a0, a1, a2, a3⟩ := BA.out.below HB37.out
    obtain ⟨zb, b0, b1, b2⟩ := BB.out.below HB37.out
    rcases hi3 with rfl | ⟨hi, hq0⟩
    · go_wp2_with fail
      refine (rMul_n E7.out.rn S7.out (by omega)).mono ?_
      rintro e w4 ⟨s4, x4, n4, c4, f4, y4, m4, d4, g4, rfl, hb, hr⟩
      have HB4 := hid (below_alloc (HB7.out.trans (hb.mono HB7.out.size)) (.cells #[.bool s4, .slice x4 n4 c4, .slice y4 m4 d4] 32)); have OB4 := hid ((OB7.out.below hb).alloc (.cells #[.bool s4, .slice x4 n4 c4, .slice y4 m4 d4] 32)); have R4 := hid (hr.alloc (.cells #[.bool s4, .slice x4 n4 c4, .slice y4 m4 d4] 32)); have BX4 := hid (bx3_at w4 (.bool s4) (.slice x4 n4 c4) (.slice y4 m4 d4) 32)
      clear hb hr za a0 a1 a2 a3 zb b0 b1 b2
      obtain ⟨zx, x0, x1, x2'⟩ := BX4.out
      go_wp2_with fail
      generalize w4.alloc (.cells #[.bool s4, .slice x4 n4 c4, .slice y4 m4 d4] 32) = w5 at *
      generalize w4.heap.size = b5 at *
      refine enumber_c.mono ?_
      rintro e w6 ⟨rfl, hb⟩
      have HB6 := hid (HB4.out.trans (hb.mono HB4.out.size)); have OB6 := hid (OB4.out.below hb); have R6 := hid (R4.out.below hb)
      clear hb zx x0 x1 x2'
      obtain ⟨hz, z0, z1, z2, z3, zf⟩ := OB6.out
      go_wp2
      exact bodyPost_ret (v := .tuple #[.agg #[.int .i64 0, .bool s4, .slice x4 n4 c4, .slice y4 m4 d4], .int .i64 0]) (by simp [results, Tryz.results24, go_sem, z0, z1, z2, z3]) rfl ⟨0, s4, x4, n4, c4, f4, y4, m4, d4, g4, 0, rfl, below_st4 HB6.out (by omega), HK.out.symm, .inr ⟨HK.out, q * r, ⟨by cases s2 <;> rfl, rfl⟩, ⟨OB6.out.rn (R6.out.mono (by omega)), .inl rfl⟩⟩⟩
    have HQ0 : Hid ((0 : Rat) = q * r) := by show (0 : Rat) = q * r; rw [hq0, Rat.zero_mul]
    clear hq0
    rcases hi with rfl | rfl <;> cases s2
    all_goals
      go_wp2_with fail
      refine eInf_c.mono ?_
      rintro e w4 ⟨s4, x4, n4, c4, f4, y4, m4, d4, g4, rfl, hb, hr⟩
      have HB4 := hid (HB7.out.trans (hb.mono HB7.out.size)); have OB4 := hid (OB7.out.below hb); have R4 := hid hr
      clear hb hr za a0 a1 a2 a3 zb b0 b1 b2
      obtain ⟨hz, z0, z1, z2, z3, zf⟩ := OB4.out
      go_wp2
      first
        | exact bodyPost_ret (v := .tuple #[.agg #[.int .i64 1, .bool s4, .slice x4 n4 c4, .slice y4 m4 d4], .int .i64 0]) (by simp [results, Tryz.results24, go_sem, z0, z1, z2, z3]) rfl ⟨1, s4, x4, n4, c4, f4, y4, m4, d4, g4, 0, rfl, below_st4 HB4.out (by omega), HK.out.symm, .inr ⟨HK.out, 0, ⟨rfl, HQ0.out⟩, ⟨OB4.out.rn (R4.out.mono (by omega)), .inr ⟨by decide, rfl⟩⟩⟩⟩
        | exact bodyPost_ret (v := .tuple #[.agg #[.int .i64 (-1), .bool s4, .slice x4 n4 c4, .slice y4 m4 d4], .int .i64 0]) (by simp [results, Tryz.results24, go_sem, z0, z1, z2, z3]) rfl ⟨-1, s4, x4, n4, c4, f4, y4, m4, d4, g4, 0, rfl, below_st4 HB4.out (by omega), HK.out.symm, .inr ⟨HK.out, 0, ⟨rfl, HQ0.out⟩, ⟨OB4.out.rn (R4.out.mono (by omega)), .inr ⟨by decide, rfl⟩⟩⟩⟩
end Go.Proofs.YtclopblgdiahiaaGreatDoor
namespace Go.Proofs.YtclopblgdiahiaaGreatDoor
open Go.RowKit

theorem eord_shift {i j c i' j' : Int} {a b r a' b' : Rat} (h1 : PShift i a r i' a') (h2 : PShift j b r j' b') (h : EOrd c i a j b) : EOrd c i' a' j' b' := by
  have e1 : i' = i := by rcases h1 with ⟨_, k, _⟩ | ⟨k1, k2, _⟩ <;> omega
  have e2 : j' = j := by rcases h2 with ⟨_, k, _⟩ | ⟨k1, k2, _⟩ <;> omega
  have key : i = j → (a < b → a' < b') ∧ (a = b → a' = b') ∧ (b < a → b' < a') := by
    intro hij
    rcases h1 with ⟨k0, _, k1⟩ | ⟨k0, _, k1⟩ <;> rcases h2 with ⟨m0, _, m1⟩ | ⟨m0, _, m1⟩
    · rw [k1, m1]; exact ⟨id, id, id⟩
    · omega
    · omega
    · rw [k1, m1]
      refine ⟨fun h => by grind, fun h => by rw [h], fun h => by grind⟩
  rw [e1, e2]
  rcases h with ⟨h0, h | ⟨h, h'⟩⟩ | ⟨h0, h, h'⟩ | ⟨h0, h | ⟨h, h'⟩⟩
  · exact .inl ⟨h0, .inl h⟩
  · exact .inl ⟨h0, .inr ⟨h, (key h).1 h'⟩⟩
  · exact .inr (.inl ⟨h0, h, (key h).2.1 h'⟩)
  · exact .inr (.inr ⟨h0, .inl h⟩)
  · exact .inr (.inr ⟨h0, .inr ⟨h, (key h).2.2 h'⟩⟩)
theorem eord_scale_pos {i j c i' j' : Int} {a b r a' b' : Rat} (hr : 0 < r) (h1 : PScale i a r false i' a') (h2 : PScale j b r false j' b') (h : EOrd c i a j b) : EOrd c i' a' j' b' := by
  obtain ⟨e1, k1⟩ := h1
  obtain ⟨e2, k2⟩ := h2
  have e1' : i' = i := e1
  have e2' : j' = j := e2
  have key : ∀ x y : Rat, x < y → x * r < y * r := fun x y h => Rat.mul_lt_mul_of_pos_right h hr
  rw [e1', e2', k1, k2]
  rcases h with ⟨h0, h | ⟨h, h'⟩⟩ | ⟨h0, h, h'⟩ | ⟨h0, h | ⟨h, h'⟩⟩
  · exact .inl ⟨h0, .inl h⟩
  · exact .inl ⟨h0, .inr ⟨h, key _ _ h'⟩⟩
  · exact .inr (.inl ⟨h0, h, by rw [h']⟩)
  · exact .inr (.inr ⟨h0, .inl h⟩)
  · exact .inr (.inr ⟨h0, .inr ⟨h, key _ _ h'⟩⟩)
theorem eord_scale_neg {i j c i' j' : Int} {a b r a' b' : Rat} (hr : r < 0) (h1 : PScale i a r true i' a') (h2 : PScale j b r true j' b') (h : EOrd c i a j b) : EOrd (-c) i' a' j' b' := by
  obtain ⟨e1, k1⟩ := h1
  obtain ⟨e2, k2⟩ := h2
  have e1' : i' = -i := e1
  have e2' : j' = -j := e2
  have hr' : 0 < -r := by grind
  have key : ∀ x y : Rat, x < y → y * r < x * r := fun x y h => by
    have := Rat.mul_lt_mul_of_pos_right h hr'
    grind
  rw [e1', e2', k1, k2]
  rcases h with ⟨h0, h | ⟨h, h'⟩⟩ | ⟨h0, h, h'⟩ | ⟨h0, h | ⟨h, h'⟩⟩
  · exact .inr (.inr ⟨by omega, .inl (by omega)⟩)
  · exact .inr (.inr ⟨by omega, .inr ⟨by omega, key _ _ h'⟩⟩)
  · exact .inr (.inl ⟨by omega, by omega, by rw [h']⟩)
  · exact .inl ⟨by omega, .inl (by omega)⟩
  · exact .inl ⟨by omega, .inr ⟨by omega, key _ _ h'⟩⟩
end Go.Proofs.YtclopblgdiahiaaGreatDoor
namespace Go.Proofs.YtclopblgdiahiaaGreatDoor
open Go.RowKit

theorem Wn.lt_pw {w s x n c f v} (h : Wn w s x n c f v) : ((v.natAbs : Nat) : Int) < pw n := by
  have hm := h.mag
  have h1 := vf_lt hm.lm
  have h3 : vf f n = ((v.natAbs : Nat) : Int) := hm.val
  omega
theorem Wn.len_pw {w s x n c f v} {K : Nat} (h : Wn w s x n c f v) (hv : ((v.natAbs : Nat) : Int) < pw K) : n ≤ K := by
  have hm := h.mag
  have h3 : vf f n = ((v.natAbs : Nat) : Int) := hm.val
  by_cases hn : n ≤ K
  · exact hn
  · have h1 := vf_form_ge hm.lm (fm_of_wfB hm.wf) (by omega)
    have h2 := pw_mono (show K ≤ n - 1 by omega)
    omega
theorem norm_le (N : Int) (D : Nat) (h : D ≠ 0) : (Rat.normalize N D h).num.natAbs ≤ N.natAbs ∧ (Rat.normalize N D h).den ≤ D := by
  rw [Rat.normalize_eq]
  exact ⟨Int.natAbs_ediv_le_natAbs _ _, Nat.div_le_self _ _⟩
/-- Numerator and denominator lie below so many limbs. -/
def Lo (K : Nat) (q : Rat) : Prop := ((q.num.natAbs : Nat) : Int) < pw K ∧ ((q.den : Nat) : Int) < pw K
theorem Lo.mono {K L q} (h : Lo K q) (hk : K ≤ L) : Lo L q := ⟨Int.lt_of_lt_of_le h.1 (pw_mono hk), Int.lt_of_lt_of_le h.2 (pw_mono hk)⟩
theorem Rn.lo {L w s x n c f y m d g q} {K : Nat} (h : Rn L w s x n c f y m d g q) (hn : n ≤ K) (hm : m ≤ K) : Lo K q :=
  ⟨Int.lt_of_lt_of_le h.num.lt_pw (pw_mono hn), Int.lt_of_lt_of_le (by have := h.den.lt_pw; simpa using this) (pw_mono hm)⟩
theorem Rn.cut {L w s x n c f y m d g q} {K : Nat} (h : Rn L w s x n c f y m d g q) (hq : Lo K q) : Rn K w s x n c f y m d g q :=
  ⟨h.num, h.den, h.num.len_pw hq.1, h.den.len_pw (by simpa using hq.2)⟩
theorem En.cut {L w i s x n c f y m d g q} {K : Nat} (h : En L w i s x n c f y m d g q) (hq : Lo K q) : En K w i s x n c f y m d g q := ⟨h.rn.cut hq, h.inf⟩
theorem mul_pw {a b : Nat} {K L : Nat} (h1 : (a : Int) < pw K) (h2 : (b : Int) < pw L) : ((a * b : Nat) : Int) ≤ pw (K + L) := by
  rw [pw_add, Int.natCast_mul]
  exact Int.mul_le_mul (by omega) (by omega) (by omega) (by have := pw_pos K; omega)
theorem pw_twice (K : Nat) : 2 * pw K < pw (K + 1) := by
  have := pw_pos K
  simp only [pw]; omega
theorem lo_mul {K L : Nat} {a b : Rat} (ha : Lo K a) (hb : Lo L b) : Lo (K + L + 1) (a * b) := by
  rw [Rat.mul_def]
  obtain ⟨h1, h2⟩ := norm_le (a.num * b.num) (a.den * b.den) (Nat.mul_ne_zero a.den_nz b.den_nz)
  have e1 := mul_pw ha.1 hb.1
  have e2 := mul_pw ha.2 hb.2
  rw [Int.natAbs_mul] at h1
  have p := pw_twice (K + L)
  have p0 := pw_pos (K + L)
  constructor <;> omega
theorem lo_add {K L : Nat} {a b : Rat} (ha : Lo K a) (hb : Lo L b) : Lo (K + L + 1) (a + b) := by
  rw [Rat.add_def]
  obtain ⟨h1, h2⟩ := norm_le (a.num * b.den + b.num * a.den) (a.den * b.den) (Nat.mul_ne_zero a.den_nz b.den_nz)
  have e1 := mul_pw ha.1 hb.2
  have e2 := mul_pw ha.2 hb.1
  have e3 := mul_pw ha.2 hb.2
  have h3 := Int.natAbs_add_le (a.num * b.den) (b.num * a.den)
  rw [Int.natAbs_mul, Int.natAbs_mul, Int.natAbs_natCast, Int.natAbs_natCast, Nat.mul_comm b.num.natAbs] at h3
  have p := pw_twice (K + L)
  have p0 := pw_pos (K + L)
  constructor <;> omega
theorem lo_neg {K : Nat} {a : Rat} (ha : Lo K a) : Lo K (-a) := by
  unfold Lo at *
  rw [Rat.neg_num, Rat.neg_den, Int.natAbs_neg]
  exact ha
theorem lo_scale {i : Int} {a r : Rat} {s : Bool} {j : Int} {q : Rat} {K L : Nat} (h : PScale i a r s j q) (ha : Lo K a) (hr : Lo L r) : Lo (K + L + 1) q := by
  rw [h.2]; exact lo_mul ha hr
theorem lo_shift {i : Int} {a r : Rat} {j : Int} {q : Rat} {K L : Nat} (h : PShift i a r j q) (ha : Lo K a) (hr : Lo L r) : Lo (K + L + 1) q := by
  rcases h with ⟨_, _, h⟩ | ⟨_, _, h⟩
  · rw [h]; exact ha.mono (by omega)
  · rw [h]; exact lo_add ha hr
theorem lo_ng {i : Int} {a : Rat} {j : Int} {q : Rat} {K : Nat} (h : PNeg i a j q) (ha : Lo K a) : Lo K q := by
  rw [h.2]; exact lo_neg ha
/-- An answered bound, when it is no error. -/
theorem OX.get {P w i s x n c f y m d g er} (h : OX 0 P w i s x n c f y m d g er) : er = 0 ∧ ∃ q, P i q ∧ En 2000 w i s x n c f y m d g q := by
  rcases h with ⟨h0, ⟨h1, _⟩ | ⟨_, h⟩⟩
  · exact absurd rfl h1
  · exact ⟨h0, h⟩
theorem OC.get {i a j b r er} (h : OC true i a j b r er) : er = 0 ∧ EOrd r i a j b := by
  rcases h with ⟨h, _⟩ | ⟨_, h⟩
  · cases h
  · exact h
theorem EOrd.one {c c' i j : Int} {a b : Rat} (h : EOrd c i a j b) (k : EOrd c' i a j b) : c' = c := by
  rcases h with ⟨h0, h | ⟨h, h'⟩⟩ | ⟨h0, h, h'⟩ | ⟨h0, h | ⟨h, h'⟩⟩ <;> rcases k with ⟨k0, k | ⟨k, k'⟩⟩ | ⟨k0, k, k'⟩ | ⟨k0, k | ⟨k, k'⟩⟩ <;> first | omega | (exfalso; grind)
end Go.Proofs.YtclopblgdiahiaaGreatDoor
namespace Go.Proofs.YtclopblgdiahiaaGreatDoor
open Go.RowKit

theorem kTgd {w : World} {x : Option Addr} (h : Tg w x) : Tg w.drew x := h
theorem kTgb {w w' : World} {x : Option Addr} (hb : Below w.heap.size w w') (h : Tg w x) : Tg w' x := h.kept hb
theorem twinT_c {w : World} {x : Option Addr} {n c : Nat} {f : Nat → Int} (hr : Rd .u64 w x n f) (hn : n ≤ 100000) (hnil : x = none → n = 0 ∧ c = 0) :
    Calls Tryz.prog 38 #[.slice x n c] w fun e w' => ∃ z c', e = .returned (.slice z n c') ∧ Below w.heap.size w w' ∧ Hid (Rd .u64 w' z n f ∧ (n ≤ c' ∧ c' ≤ 9223372036854775807) ∧ (z = none → n = 0 ∧ c' = 0) ∧ Tg w' z) := by
  refine (twin_c x n c f w (by omega) hr hnil).mono ?_
  rintro e w' ⟨z, c', rfl, h2, h3, h4⟩
  obtain ⟨ao, cap, hv, k1, k2, k3, _, _⟩ := h4.shape
  cases hv
  exact ⟨z, c', rfl, h2, h3, ⟨k1, by unfold maxLen at k3; omega⟩, fun h => (by have := k2 h; omega), h4.tg⟩

set_option maxRecDepth 100000 in
set_option maxHeartbeats 8000000 in
theorem qTwinT_c {w : World} {s : Bool} {x : Option Addr} {n c : Nat} {f : Nat → Int} {y : Option Addr} {m d : Nat} {g : Nat → Int} (h : Rw w x n c f y m d g) (hn : n ≤ 1000) (hm : m ≤ 1000) :
    Calls Tryz.prog 14 #[.agg #[.bool s, .slice x n c, .slice y m d]] w fun e w' => ∃ z c' z2 c2, e = .returned (.agg #[.bool s, .slice z n c', .slice z2 m c2]) ∧ Below w.heap.size w w' ∧ Hid (Rw w' z n c' f z2 m c2 g ∧ Tg w' z ∧ Tg w' z2) := by
  obtain ⟨h1, h2, h3⟩ := qbox1 (w := w) (.bool s) (.slice x n c) (.slice y m d) 32 32
  have h4 := h.below h3
  clear h
  go_enter Tryz.func14, Tryz.ntmps14
  go_wp2_with fail
  generalize (w.alloc (.cells #[.bool s, .slice x n c, .slice y m d] 32)).alloc (.cells #[.bool false, .slice none 0 0, .slice none 0 0] 32) = w1 at *
  have HN := hid h4; have OB := hid h2; have HW := hid h3
  obtain ⟨z, x0, x1, x2⟩ := h1
  obtain ⟨hz, z0, z1, z2, zf⟩ := h2
  clear h3 h4
  have C1 : Hid (∀ W, Below w1.heap.size w1 W → Calls Tryz.prog 38 #[.slice x n c] W fun e w' => ∃ z c', e = .returned (.slice z n c') ∧ Below W.heap.size W w' ∧ Hid (Rd .u64 w' z n f ∧ (n ≤ c' ∧ c' ≤ 9223372036854775807) ∧ (z = none → n = 0 ∧ c' = 0) ∧ Tg w' z)) := fun W hW => twinT_c (HN.out.below hW).rx (by omega) HN.out.nx
  have C2 : Hid (∀ W, Below w1.heap.size w1 W → Calls Tryz.prog 38 #[.slice y m d] W fun e w' => ∃ z c', e = .returned (.slice z m c') ∧ Below W.heap.size W w' ∧ Hid (Rd .u64 w' z m g ∧ (m ≤ c' ∧ c' ≤ 9223372036854775807) ∧ (z = none → m = 0 ∧ c' = 0) ∧ Tg w' z)) := fun W hW => twinT_c (HN.out.below hW).ry (by omega) HN.out.ny
  go_region_held3 (fun w' => w'.cell? ⟨w.heap.size, 0, none⟩ = some (.bool s) ∧ w'.cell? ⟨w.heap.size, 1, none⟩ = some (.slice x n c) ∧ w'.cell? ⟨w.heap.size, 2, none⟩ = some (.slice y m d) ∧ (w'.cell? ⟨w.heap.size + 1, 0, none⟩).isSome = true ∧ (w'.cell? ⟨w.heap.size + 1, 1, none⟩).isSome = true ∧ (w'.cell? ⟨w.heap.size + 1, 2, none⟩).isSome = true ∧ w'.frozen? ⟨w.heap.size + 1, 0, none⟩ = false ∧ w'.frozen? ⟨w.heap.size + 1, 1, none⟩ = false ∧ w'.frozen? ⟨w.heap.size + 1, 2, none⟩ = false)
    (refine ⟨?_, ?_, ?_, ?_, ?_, ?_, ?_, ?_, ?_⟩ <;> repeat (with_reducible first | assumption | exact zf _ | exact tf _ | exact uf _ | exact kI0 z0 | exact kI0 z1 | exact kI0 z2 | exact kI0 t0 | exact kI0 t1 | exact kI0 t2 | exact kI0 u0 | exact kI0 u1 | exact kI0 u2 | refine kCd ?_ | refine kId ?_ | refine kFd ?_ | refine kCs (by simp only [ne_eq]; omega) ?_ | refine kIs ?_ | refine kFs ?_ | refine kCb (by assumption) ?_ | refine kIb (by assumption) ?_))
    (first
      | (go_at_call 38; with_reducible refine (C1.out _ (by repeat (with_reducible first | assumption | exact Below.refl _ _ | refine Below.drew ?_ | refine kBb (by assumption) ?_))).mono ?_; rintro e v5 ⟨z5, c5, rfl, hb5, H5⟩; have Tt : Ob v5 (w.heap.size + 1) := (by repeat (with_reducible first | exact OB.out | exact Tt | exact Tu | refine Ob.drew ?_ | refine kOb (by assumption) ?_)); obtain ⟨_, t0, t1, t2, tf⟩ := id Tt)
      | (go_at_call 38; with_reducible refine (C2.out _ (by repeat (with_reducible first | assumption | exact Below.refl _ _ | refine Below.drew ?_ | refine kBb (by assumption) ?_))).mono ?_; rintro e v6 ⟨z6, c6, rfl, hb6, H6⟩; have Tu : Ob v6 (w.heap.size + 1) := (by repeat (with_reducible first | exact OB.out | exact Tt | exact Tu | refine Ob.drew ?_ | refine kOb (by assumption) ?_)); obtain ⟨_, u0, u1, u2, uf⟩ := id Tu))
  all_goals
    have D5 : Rd .u64 v6 z5 n f := (by repeat (with_reducible first | exact H5.out.1 | refine Rd.drew ?_ | refine kRdb (by assumption) ?_))
    have T5 : Tg v6 z5 := (by repeat (with_reducible first | exact H5.out.2.2.2 | refine kTgd ?_ | refine kTgb (by assumption) ?_))
    have hb : Below w1.heap.size w1 v6 := (by repeat (with_reducible first | assumption | exact Below.refl _ _ | refine Below.drew ?_ | refine kBb (by assumption) ?_))
    go_wp2
    exact bodyPost_ret (v := .agg #[.bool s, .slice z5 n c5, .slice z6 m c6]) (by simp [results, Tryz.results14, go_sem, u0, u1, u2]) rfl ⟨z5, c5, z6, c6, rfl, below_st (HW.out.trans (hb.mono HW.out.size)) (by omega), ⟨Tu.rd D5, HN.out.lx, H5.out.2.1, H5.out.2.2.1, Tu.rd H6.out.1, HN.out.ly, H6.out.2.1, H6.out.2.2.1⟩, ((T5.set _ _).set _ _).set _ _, ((H6.out.2.2.2.set _ _).set _ _).set _ _⟩


def dec (V : Nat) : ByteArray := ⟨(Lib.decDigits V).toArray⟩
def wtx (s : Bool) (V : Nat) : ByteArray := if s then ⟨#[45]⟩ ++ dec V else dec V
/-- The text of a rational number. -/
def qtx (s : Bool) (q : Rat) : ByteArray := if q.den = 1 then wtx s q.num.natAbs else wtx s q.num.natAbs ++ ⟨#[47]⟩ ++ dec q.den
theorem txt_dec {w x n c f} {V : Nat} (h : Wn w false x n c f (V : Int)) : txt f n = dec V ∧ ter f n = 0 := by
  have hfm : fmB f n = true := (fmB_iff f n).2 h.fm
  have e : (vf f n).toNat = V := by rw [h.nv]; omega
  exact ⟨by unfold txt dec; rw [if_pos hfm, e], by simp [ter, hfm]⟩
theorem wtxt_dec {w s x n c f} {v : Int} (h : Wn w s x n c f v) : wtxt s f n = wtx s v.natAbs ∧ wter s f n = 0 := by
  have h1 := (txt_dec h.mag).1
  refine ⟨?_, by simp [wter, h.wf]⟩
  unfold wtxt wtx
  rw [if_pos h.wf, h1]
theorem dec_size {w x n c f} {V : Nat} (h : Wn w false x n c f (V : Int)) (hn : n ≤ 4096) : (dec V).size ≤ 81921 := by
  rw [← (txt_dec h).1]; exact txt_size h.lm hn
theorem wtx_size {s : Bool} {V : Nat} (h : (dec V).size ≤ 81921) : (wtx s V).size ≤ 81922 := by
  unfold wtx
  cases s
  · simp; omega
  · simp [ByteArray.size_append]
    have : (ByteArray.mk #[45]).size = 1 := rfl
    omega

set_option maxRecDepth 100000 in
set_option maxHeartbeats 4000000 in
theorem rTextOk_u {L w s x n c f y m d g q} (h : Rn L w s x n c f y m d g q) (hL : L ≤ 1000) (htab : Tab w) :
    Calls Tryz.prog 48 #[.agg #[.bool s, .slice x n c, .slice y m d]] w fun e w' => e = .returned (.tuple #[.string (qtx s q), .int .i64 0]) ∧ Below w.heap.size w w' := by
  have HR := hid h; have HTab := hid htab
  have b1 := h.ln; have b2 := h.ld
  have e1 := wtxt_dec h.num
  have e2 := txt_dec h.den
  have s2 := dec_size h.den (by omega)
  have s1 := wtx_size (s := s) (dec_size h.num.mag (by omega))
  have E1 := hid e1; have E2 := hid e2
  have hq : Hid (qtx s q = if q.den = 1 then wtx s q.num.natAbs else wtx s q.num.natAbs ++ ⟨#[47]⟩ ++ dec q.den) := rfl
  clear h htab e1 e2
  go_enter Tryz.func48, Tryz.ntmps48
  go_wp2_with fail
  refine (rForm_n (HR.out.alloc _) (by omega)).mono ?_
  rintro e w1 ⟨rfl, hb⟩
  have B1 := hid (bx3_new hb); have HW1 : Hid (Below w.heap.size w w1) := (below_alloc (Below.refl w.heap.size w) _).trans (hb.mono (by simp))
  clear hb
  obtain ⟨z, x0, x1, x2⟩ := B1.out
  go_wp2_with fail
  refine (numer_c s x y n c m d _).mono ?_
  rintro e w2 ⟨rfl, hb⟩
  have B2 := hid (B1.out.below hb); have HW2 := hid (HW1.out.trans (hb.mono HW1.out.size))
  clear hb B1 HW1 z x0 x1 x2
  obtain ⟨z, x0, x1, x2⟩ := B2.out
  have R2 := hid (HR.out.below HW2.out)
  have ct := wText_u s x n c f w2 (by omega) R2.out.num.rd R2.out.num.lm (HTab.out.below HW2.out HTab.out.lt) R2.out.num.cap.1 R2.out.num.cap.2
  rw [E1.out.1, E1.out.2] at ct
  have CT := hid ct
  clear ct
  go_wp2_with fail
  refine CT.out.mono ?_
  rintro e w3 ⟨rfl, hb⟩
  have B3 := hid (B2.out.below hb); have HW3 := hid (HW2.out.trans (hb.mono HW2.out.size)); have R3 := hid (R2.out.below hb)
  clear hb B2 HW2 R2 CT z x0 x1 x2
  obtain ⟨z, x0, x1, x2⟩ := B3.out
  have c4 := isOne_c R3.out.den
  have cd := TextAll_u y m d g w3 (by omega) R3.out.den.rd R3.out.den.lm (HTab.out.below HW3.out HTab.out.lt) R3.out.den.cap.1 R3.out.den.cap.2
  rw [E2.out.1, E2.out.2] at cd
  have CD := hid cd
  clear cd
  generalize wtx s q.num.natAbs = ta at *
  generalize dec q.den = tb at *
  by_cases h1 : q.den = 1
  · rw [show decide ((q.den : Int) = 1) = true by simp [h1]] at c4
    have C4 := hid c4
    have HQ : Hid (qtx s q = ta) := by rw [hq.out, if_pos h1]; exact hid rfl
    clear c4 h1 CD hq
    go_wp2_with fail
    refine C4.out.mono ?_
    rintro e w4 ⟨rfl, rfl⟩
    go_wp2
    go_ret2
    exact ⟨by rw [HQ.out]; rfl, HW3.out⟩
  · rw [show decide ((q.den : Int) = 1) = false by simp; omega] at c4
    have C4 := hid c4
    have HQ : Hid (qtx s q = ta ++ ⟨#[47]⟩ ++ tb) := by rw [hq.out, if_neg h1]; exact hid rfl
    clear c4 h1 hq
    go_wp2_with fail
    refine C4.out.mono ?_
    rintro e w4 ⟨rfl, rfl⟩
    go_wp2_with fail
    refine CD.out.mono ?_
    rintro e w5 ⟨rfl, hb⟩
    have HW5 := hid (HW3.out.trans (hb.mono HW3.out.size))
    clear hb
    go_wp2
    go_ret2
    exact ⟨by rw [HQ.out]; rfl, HW5.out⟩

theorem rTextOk_c {L w s x n c f y m d g q} (h : Rn L w s x n c f y m d g q) (hL : L ≤ 1000) (_ : Tg w x) (_ : Tg w y) (htab : Tab w) :
    Calls Tryz.prog 48 #[.agg #[.bool s, .slice x n c, .slice y m d]] w fun e w' => e = .returned (.tuple #[.string (qtx s q), .int .i64 0]) ∧ Below w.heap.size w w' := rTextOk_u h hL htab

set_option maxRecDepth 100000 in
set_option maxHeartbeats 4000000 in
theorem rTextErr_c {w : World} {s : Bool} {x : Option Addr} {n c : Nat} {f : Nat → Int} {y : Option Addr} {m e : Nat} {g : Nat → Int} (h : Rw w x n c f y m e g) (hn : n ≤ 1000) (hm : m ≤ 1000) (hp : rfB s f n g m = false) :
    Calls Tryz.prog 48 #[.agg #[.bool s, .slice x n c, .slice y m e]] w fun en w' => en = .returned (.tuple #[.string ⟨#[]⟩, .int .i64 3]) ∧ Below w.heap.size w w' := by
  have H := hid h
  have c1 := fun W hW => rForm_c (s := s) (H.out.below (w' := W) hW) (by omega) (by omega)
  rw [hp] at c1
  have C1 := hid c1
  clear h c1 hp
  go_enter Tryz.func48, Tryz.ntmps48
  go_wp2_with fail
  refine (C1.out _ (below_alloc (Below.refl w.heap.size w) _)).mono ?_
  rintro en w2 ⟨rfl, hb⟩
  have HB : Hid (Below w.heap.size w w2) := (below_alloc (Below.refl w.heap.size w) _).trans (hb.mono (by simp))
  clear hb
  go_wp2
  go_ret2
  exact ⟨rfl, HB.out⟩

theorem Dn.dn_txt {w x n d V} (_h : Dn w x n d V) (hs : (dec V).size ≤ 81921) : (Lib.decDigits V).length ≤ 1000000 := by
  have e : (dec V).size = (Lib.decDigits V).length := by show ((Lib.decDigits V).toArray).size = _; rw [List.size_toArray]
  omega

/-- Text and error, in form or not. -/
def ptx (p : Bool) (s : Bool) (q : Rat) : ByteArray := if p then qtx s q else ⟨#[]⟩
def pte (p : Bool) : Int := if p then 0 else 3
theorem rText_u {w : World} {s : Bool} {x : Option Addr} {n c : Nat} {f : Nat → Int} {y : Option Addr} {m d : Nat} {g : Nat → Int} {p : Bool} {q : Rat} (h : Rw w x n c f y m d g) (hn : n ≤ 100) (hm : m ≤ 100) (hp : rfB s f n g m = p) (hq : p = true → Rn 100 w s x n c f y m d g q) (htab : Tab w) :
    Calls Tryz.prog 48 #[.agg #[.bool s, .slice x n c, .slice y m d]] w fun e w' => e = .returned (.tuple #[.string (ptx p s q), .int .i64 (pte p)]) ∧ Below w.heap.size w w' := by
  cases p
  · exact rTextErr_c h (by omega) (by omega) hp
  · exact rTextOk_u (hq rfl) (by omega) htab
theorem rText_g {w : World} {s : Bool} {x : Option Addr} {n c : Nat} {f : Nat → Int} {y : Option Addr} {m d : Nat} {g : Nat → Int} {p : Bool} {q : Rat} (h : Rw w x n c f y m d g) (hn : n ≤ 100) (hm : m ≤ 100) (hp : rfB s f n g m = p) (hq : p = true → Rn 100 w s x n c f y m d g q) (_ : Tg w x) (_ : Tg w y) (htab : Tab w) :
    Calls Tryz.prog 48 #[.agg #[.bool s, .slice x n c, .slice y m d]] w fun e w' => e = .returned (.tuple #[.string (ptx p s q), .int .i64 (pte p)]) ∧ Below w.heap.size w w' := rText_u h hn hm hp hq htab
end Go.Proofs.YtclopblgdiahiaaGreatDoor
namespace Go.Proofs.YtclopblgdiahiaaGreatDoor
open Go.RowKit

/-- Bytes that are a whole number's text. -/
def IsWh (b : Nat → Nat) (L : Nat) (u : Int) : Prop :=
  (0 < L ∧ b 0 = 45) ∧ (IsNum (bsh b 1) (L - 1) ∧ 0 < dn (bsh b 1) (L - 1)) ∧ u = -(dn (bsh b 1) (L - 1) : Nat) ∨ ¬ (0 < L ∧ b 0 = 45) ∧ IsNum b L ∧ u = (dn b L : Nat)
theorem IsWh.uniq {b L u v} (h : IsWh b L u) (k : IsWh b L v) : u = v := by
  rcases h with ⟨h1, _, h2⟩ | ⟨h1, _, h2⟩ <;> rcases k with ⟨k1, _, k2⟩ | ⟨k1, _, k2⟩
  · omega
  · exact absurd h1 k1
  · exact absurd k1 h1
  · omega
/-- The first bar stands at i. -/
def Bar (b : Nat → Nat) (L i : Nat) : Prop := i < L ∧ b i = 47 ∧ ∀ j, j < i → b j ≠ 47
def NoBar (b : Nat → Nat) (L : Nat) : Prop := ∀ j, j < L → b j ≠ 47
theorem Bar.uniq {b L i j} (h : Bar b L i) (k : Bar b L j) : i = j := by
  rcases Nat.lt_trichotomy i j with h1 | h1 | h1
  · exact absurd h.2.1 (k.2.2 i h1)
  · exact h1
  · exact absurd k.2.1 (h.2.2 j h1)
theorem Bar.no {b L i} (h : Bar b L i) (k : NoBar b L) : False := k i h.1 h.2.1
theorem bar_or (b : Nat → Nat) (L : Nat) : (∃ i, Bar b L i) ∨ NoBar b L := by
  induction L with
  | zero => right; intro j hj; omega
  | succ L ih =>
    rcases ih with ⟨i, h1, h2, h3⟩ | h
    · exact .inl ⟨i, by omega, h2, h3⟩
    · by_cases hb : b L = 47
      · exact .inl ⟨L, by omega, hb, h⟩
      · right; intro j hj
        rcases Nat.lt_or_ge j L with h1 | h1
        · exact h j h1
        · have : j = L := by omega
          subst this; exact hb
/-- The bytes are the text of q. -/
def RT (b : Nat → Nat) (L : Nat) (q : Rat) : Prop :=
  (∃ i u, Bar b L i ∧ IsWh b i u ∧ IsNum (bsh b (i + 1)) (L - (i + 1)) ∧ 1 < dn (bsh b (i + 1)) (L - (i + 1)) ∧ u.natAbs.gcd (dn (bsh b (i + 1)) (L - (i + 1))) = 1 ∧ q = (u : Rat) / (((dn (bsh b (i + 1)) (L - (i + 1)) : Nat) : Int) : Rat)) ∨
  (∃ u, NoBar b L ∧ IsWh b L u ∧ q = (u : Rat))
theorem RT.uniq {b L q r} (h : RT b L q) (k : RT b L r) : q = r := by
  rcases h with ⟨i, u, h1, h2, _, _, _, h3⟩ | ⟨u, h1, h2, h3⟩ <;> rcases k with ⟨j, v, k1, k2, _, _, _, k3⟩ | ⟨v, k1, k2, k3⟩
  · have := h1.uniq k1
    subst this
    have := h2.uniq k2
    subst this
    rw [h3, k3]
  · exact absurd k1 (fun k => h1.no k)
  · exact absurd h1 (fun k => k1.no k)
  · have := h2.uniq k2
    subst this
    rw [h3, k3]
/-- What Read answers. -/
def RRead (b : Nat → Nat) (L : Nat) (w' : World) (s : Bool) (x : Option Addr) (n c : Nat) (f : Nat → Int) (y : Option Addr) (m d : Nat) (g : Nat → Int) (er : Int) : Prop :=
  1048576 < L ∧ er = 2 ∧ n = 0 ∧ m = 0 ∧ s = false ∨ L ≤ 1048576 ∧ (∃ q, RT b L q ∧ Rn 2000 w' s x n c f y m d g q) ∧ er = 0 ∨ L ≤ 1048576 ∧ (∀ q, ¬ RT b L q) ∧ er = 11 ∧ n = 0 ∧ m = 0 ∧ s = false
theorem RRead.below {b L w w' s x n c f y m d g er} (h : RRead b L w s x n c f y m d g er) (hb : Below w.heap.size w w') : RRead b L w' s x n c f y m d g er := by
  rcases h with h | ⟨h1, ⟨q, h2, h3⟩, h4⟩ | h
  · exact .inl h
  · exact .inr (.inl ⟨h1, ⟨q, h2, h3.below hb⟩, h4⟩)
  · exact .inr (.inr h)
theorem RRead.alloc {b L w s x n c f y m d g er} (h : RRead b L w s x n c f y m d g er) (o : Obj) : RRead b L (w.alloc o) s x n c f y m d g er := h.below (below_alloc (Below.refl _ _) o)
theorem rr_er {b L w s x n c f y m d g er w' s' x' n' c' f' y' m' d' g' er'} (h : RRead b L w s x n c f y m d g er) (k : RRead b L w' s' x' n' c' f' y' m' d' g' er') : er' = er := by
  rcases h with ⟨h1, h2, _⟩ | ⟨h1, ⟨q, h2, _⟩, h3⟩ | ⟨h1, h2, h3, _⟩ <;> rcases k with ⟨k1, k2, _⟩ | ⟨k1, ⟨r, k2, _⟩, k3⟩ | ⟨k1, k2, k3, _⟩ <;> first | omega | exact absurd k2 (h2 _) | exact absurd h2 (k2 _)
theorem rr_same {b L w s x n c f y m d g er s' x' n' c' f' y' m' d' g' er'} (h : RRead b L w s x n c f y m d g er) (k : RRead b L w s' x' n' c' f' y' m' d' g' er') :
    Calls Tryz.prog 16 #[.agg #[.bool s, .slice x n c, .slice y m d], .agg #[.bool s', .slice x' n' c', .slice y' m' d']] w fun e w' => e = .returned (.bool true) ∧ Below w.heap.size w w' := by
  rcases h with ⟨h1, h2, h3, h4, h5⟩ | ⟨h1, ⟨q, h2, h4⟩, h3⟩ | ⟨h1, h0, h2, h3, h4, h5⟩ <;> rcases k with ⟨k1, k2, k3, k4, k5⟩ | ⟨k1, ⟨r, k2, k4⟩, k3⟩ | ⟨k1, k0, k2, k3, k4, k5⟩
  · subst h3 h4 h5 k3 k4 k5; exact sameNone_c
  · omega
  · omega
  · omega
  · have := h2.uniq k2
    subst this
    refine (rSame_n h4 k4 (by omega) (by omega)).mono ?_
    rintro e w' ⟨rfl, hb⟩
    exact ⟨by simp, hb⟩
  · exact absurd h2 (k0 _)
  · omega
  · exact absurd k2 (h0 _)
  · subst h3 h4 h5 k3 k4 k5; exact sameNone_c
theorem wread_cases {b : Nat → Nat} {L : Nat} {r : Bool} {k : Nat} {f : Nat → Int} {er : Int} (h : WRead L b r k f er) (hL : L ≤ 1048576) : er = 0 ∧ IsWh b L (wv r f k) ∨ er = 11 ∧ ∀ u, ¬ IsWh b L u := by
  rcases h with ⟨h1, _⟩ | ⟨_, h1, h2, h3, h4, h5, h6⟩ | ⟨_, h1, h2, h3, h4⟩ | ⟨_, h1, h2, h3, _⟩
  · omega
  · exact .inl ⟨h5, .inl ⟨⟨h1, h2⟩, ⟨h3, h4⟩, h6⟩⟩
  · exact .inl ⟨h3, .inr ⟨h1, h2, h4⟩⟩
  · refine .inr ⟨h3, fun u hu => ?_⟩
    rcases hu with ⟨k1, k2, _⟩ | ⟨k1, k2, _⟩
    · exact h1 ⟨k1.1, k1.2, k2.1, k2.2⟩
    · exact h2 ⟨k1, k2⟩
theorem ten_pw (L : Nat) : ((10 ^ L : Nat) : Int) ≤ pw L := by
  induction L with
  | zero => simp [pw]
  | succ L ih =>
    rw [Nat.pow_succ, pw_succ]
    have := pw_pos L
    push_cast at ih ⊢
    omega
/-- A number that digits tell has no more limbs than digits. -/
theorem Wn.len_dn {w x n c f b L} (h : Wn w false x n c f (dn b L : Nat)) (hd : Dig b L) : n ≤ L := by
  rcases Nat.lt_or_ge L n with h1 | h1
  · have h2 := vf_form_ge h.lm h.fm (by omega)
    have h3 := pw_mono (show L ≤ n - 1 by omega)
    have h4 := ten_pw L
    have h5 := dn_lt hd
    have h6 := h.nv
    omega
  · exact h1
theorem isWh_len {w s x n c f b L u} (h : Wn w s x n c f u) (hu : IsWh b L u) : n ≤ L := by
  rcases hu with ⟨h1, ⟨h2, _⟩, h3⟩ | ⟨h1, h2, h3⟩
  · have h4 := h.mag
    rw [h3] at h4
    have e : (-(dn (bsh b 1) (L - 1) : Int)).natAbs = dn (bsh b 1) (L - 1) := by omega
    rw [e] at h4
    have := h4.len_dn h2.1
    omega
  · have h4 := h.mag
    rw [h3] at h4
    have e : ((dn b L : Nat) : Int).natAbs = dn b L := by omega
    rw [e] at h4
    exact h4.len_dn h2.1

theorem sb_list {s L b} (hs : Sb s L b) {k : Nat} (hk : k < L) : ∃ u : UInt8, s.data.toList[k]? = some u ∧ u.toNat = b k := by
  have h : k < s.size := by rw [hs.1]; exact hk
  refine ⟨s[k], ?_, hs.2 k h⟩
  rw [Array.getElem?_toList]
  exact Array.getElem?_eq_getElem h
theorem sb_none {s L b} (hs : Sb s L b) {k : Nat} (hk : L ≤ k) : s.data.toList[k]? = none := by
  rw [Array.getElem?_toList]
  exact Array.getElem?_eq_none (by have := hs.1; show s.size ≤ k; omega)
theorem idx_bar {s L b i} (hs : Sb s L b) (hi : Bar b L i) : Lib.indexByte s.data.toList 47 = (i : Int) := by
  have h0 := Lib.indexByte_ge s.data.toList 47
  obtain ⟨u, h1, h2⟩ := sb_list hs hi.1
  have hu : u = 47 := UInt8.toNat_inj.1 (by rw [h2, hi.2.1]; rfl)
  subst hu
  rcases (show Lib.indexByte s.data.toList 47 < 0 ∨ 0 ≤ Lib.indexByte s.data.toList 47 by omega) with h | h
  · exact absurd h1 (Lib.indexByte_none (show Lib.indexByte s.data.toList 47 = -1 by omega) i)
  · obtain ⟨o, ho⟩ : ∃ o : Nat, Lib.indexByte s.data.toList 47 = o := ⟨(Lib.indexByte s.data.toList 47).toNat, by omega⟩
    rw [ho]
    obtain ⟨k1, k2⟩ := Lib.indexByte_some ho
    rcases Nat.lt_trichotomy o i with h3 | h3 | h3
    · obtain ⟨v, h4, h5⟩ := sb_list hs (show o < L by have := hi.1; omega)
      rw [k1] at h4
      cases h4
      exact absurd h5.symm (hi.2.2 o h3)
    · rw [h3]
    · exact absurd h1 (k2 i h3)
theorem idx_none {s L b} (hs : Sb s L b) (hi : NoBar b L) : Lib.indexByte s.data.toList 47 = -1 := by
  have h0 := Lib.indexByte_ge s.data.toList 47
  rcases (show Lib.indexByte s.data.toList 47 < 0 ∨ 0 ≤ Lib.indexByte s.data.toList 47 by omega) with h | h
  · omega
  · obtain ⟨o, ho⟩ : ∃ o : Nat, Lib.indexByte s.data.toList 47 = o := ⟨(Lib.indexByte s.data.toList 47).toNat, by omega⟩
    obtain ⟨k1, _⟩ := Lib.indexByte_some ho
    rcases Nat.lt_or_ge o L with h3 | h3
    · obtain ⟨v, h4, h5⟩ := sb_list hs h3
      rw [k1] at h4
      cases h4
      exact absurd h5.symm (hi o h3)
    · rw [sb_none hs h3] at k1; cases k1

set_option maxRecDepth 100000 in
set_option maxHeartbeats 1000000 in
theorem cutBar_c {s : ByteArray} {L : Nat} {b : Nat → Nat} {i : Nat} (hs : Sb s L b) (hL : L ≤ 1048576) (hi : Bar b L i) (w : World) : Calls Tryz.prog 95 #[.string s, .string ⟨#[47]⟩] w fun e w' => e = .returned (.tuple #[.string (s.extract 0 i), .string (s.extract (i + 1) L), .bool true]) ∧ Below w.heap.size w w' := by
  have hx := idx_bar hs hi
  have hiL := hi.1
  have hsz := hs.1
  have C1 : Hid (∀ W, Calls Tryz.prog 150 #[.string s, .string ⟨#[47]⟩] W fun e w' => e = .returned (.int .i64 i) ∧ w' = W) := fun W => by
    have := Tryz.stringslite_Index_one s 47 W
    rw [hx] at this
    exact this
  clear hs hi hx
  subst hsz
  have c2 : ∀ W, Calls Tryz.prog 129 #[.string s, .string ⟨#[47]⟩] W fun e w' => e = .returned (.tuple #[.string (s.extract 0 i), .string (s.extract (i + 1) s.size), .bool true]) ∧ Below W.heap.size W w' := fun W => by
    have hge : decide ((0 : Int) ≤ (i : Int)) = true := by simp
    have h1 : ((ByteArray.mk #[47]).size : Int) = 1 := by decide
    go_enter Tryz.func129, Tryz.ntmps129
    go_wp2_with fail
    refine (C1.out _).mono ?_
    rintro e w1 ⟨rfl, rfl⟩
    go_wp2
    go_quiet (fail)
    go_wp2
    exact bodyPost_ret (v := .tuple #[.string (s.extract 0 i), .string (s.extract (i + 1) s.size), .bool true]) (by simp [results, Tryz.results129, go_sem]) rfl ⟨rfl, below_drewN (Below.refl _ _) _⟩
  have C2 := hid c2
  clear c2 C1
  go_enter Tryz.func95, Tryz.ntmps95
  go_wp2_with fail
  refine (C2.out _).mono ?_
  rintro e w1 ⟨rfl, hb⟩
  go_wp2
  exact bodyPost_ret (v := .tuple #[.string (s.extract 0 i), .string (s.extract (i + 1) s.size), .bool true]) (by simp [results, Tryz.results95, go_sem]) rfl ⟨rfl, hb⟩
set_option maxRecDepth 100000 in
set_option maxHeartbeats 1000000 in
theorem cutNone_c {s : ByteArray} {L : Nat} {b : Nat → Nat} (hs : Sb s L b) (hL : L ≤ 1048576) (hi : NoBar b L) (w : World) : Calls Tryz.prog 95 #[.string s, .string ⟨#[47]⟩] w fun e w' => e = .returned (.tuple #[.string s, .string ⟨#[]⟩, .bool false]) ∧ Below w.heap.size w w' := by
  have hx := idx_none hs hi
  have hsz := hs.1
  have C1 : Hid (∀ W, Calls Tryz.prog 150 #[.string s, .string ⟨#[47]⟩] W fun e w' => e = .returned (.int .i64 (-1)) ∧ w' = W) := fun W => by
    have := Tryz.stringslite_Index_one s 47 W
    rw [hx] at this
    exact this
  clear hs hi hx
  subst hsz
  have c2 : ∀ W, Calls Tryz.prog 129 #[.string s, .string ⟨#[47]⟩] W fun e w' => e = .returned (.tuple #[.string s, .string ⟨#[]⟩, .bool false]) ∧ Below W.heap.size W w' := fun W => by
    go_enter Tryz.func129, Tryz.ntmps129
    go_wp2_with fail
    refine (C1.out _).mono ?_
    rintro e w1 ⟨rfl, rfl⟩
    go_wp2
    exact bodyPost_ret (v := .tuple #[.string s, .string ⟨#[]⟩, .bool false]) (by simp [results, Tryz.results129, go_sem]) rfl ⟨rfl, Below.refl _ _⟩
  have C2 := hid c2
  clear c2 C1
  go_enter Tryz.func95, Tryz.ntmps95
  go_wp2_with fail
  refine (C2.out _).mono ?_
  rintro e w1 ⟨rfl, hb⟩
  go_wp2
  exact bodyPost_ret (v := .tuple #[.string s, .string ⟨#[]⟩, .bool false]) (by simp [results, Tryz.results95, go_sem]) rfl ⟨rfl, hb⟩

/-- What readDen answers. -/
def DRead (b : Nat → Nat) (L : Nat) (w' : World) (x : Option Addr) (k c : Nat) (f : Nat → Int) (er : Int) : Prop :=
  (IsNum b L ∧ dn b L ≠ 1) ∧ er = 0 ∧ Wn w' false x k c f (dn b L : Nat) ∨ ¬ (IsNum b L ∧ dn b L ≠ 1) ∧ er = 11
set_option maxRecDepth 100000 in
set_option maxHeartbeats 1000000 in
theorem readDen_c (s : ByteArray) (L : Nat) (b : Nat → Nat) (w : World) (hs : Sb s L b) (hL : L ≤ 1048576) :
    Calls Tryz.prog 97 #[.string s] w fun e w' => ∃ x k c f er, e = .returned (.tuple #[.slice x k c, .int .i64 er]) ∧ Below w.heap.size w w' ∧ Hid (DRead b L w' x k c f er) := by
  go_enter Tryz.func97, Tryz.ntmps97
  go_wp2_with fail
  refine (Read_c s L b _ hs).mono ?_
  rintro e w1 ⟨x, k, c, f, er, rfl, hres, hans⟩
  have hr := hres.ans (by omega)
  have hb := hr.bel
  have hw : Wn w1 false x k c f (vf f k) := ⟨hr.rd, hr.lm, (wfB_iff _ _ _).2 ⟨hr.fm, fun h => by cases h⟩, hr.ncap, hr.nil', rfl⟩
  have C2 := hid (isOne_c hw); have HB := hid hb; have HW := hid hw; have HAns := hid hans
  clear hres hans hr hb hw hs
  go_wp2_with fail
  refine C2.out.mono ?_
  rintro e w2 ⟨rfl, rfl⟩
  by_cases h1 : vf f k = 1
  · rw [decide_eq_true h1]
    have HF : Hid (¬ (IsNum b L ∧ dn b L ≠ 1)) := by
      rintro ⟨k1, k2⟩
      rcases HAns.out with ⟨h2, _⟩ | ⟨_, h2, _⟩ | ⟨_, _, _, h2⟩
      · omega
      · exact h2 k1
      · omega
    clear h1
    go_wp2
    go_ret2
    exact ⟨none, 0, 0, fun _ => 0, 11, rfl, HB.out, .inr ⟨HF.out, rfl⟩⟩
  · rw [decide_eq_false h1]
    have HF : Hid (DRead b L w2 x k c f er) := by
      rcases HAns.out with ⟨h2, _⟩ | ⟨_, h2, h3, _⟩ | ⟨_, h2, h3, h4⟩
      · omega
      · exact .inr ⟨fun h => h2 h.1, h3⟩
      · exact .inl ⟨⟨h2, by omega⟩, h3, by rw [← h4]; exact HW.out⟩
    clear h1
    go_wp2
    go_ret2
    exact ⟨x, k, c, f, er, rfl, HB.out, HF.out⟩
end Go.Proofs.YtclopblgdiahiaaGreatDoor
namespace Go.Proofs.YtclopblgdiahiaaGreatDoor
open Go.RowKit

theorem rf_eq {w w' s x n c f u y m d g} {D : Nat} (ha : Wn w s x n c f u) (hb : Wn w' false y m d g ((D : Nat) : Int)) : rfB s f n g m = (decide (0 < D) && decide (u.natAbs.gcd D = 1)) := by
  have h1 : (vf f n).toNat = u.natAbs := by rw [← natAbs_wv (s := s) ha.lm, ha.val]
  have h2 : (vf g m).toNat = D := by rw [hb.nv]; omega
  have h3 : decide (0 < m) = decide (0 < D) := by
    rcases Nat.eq_zero_or_pos D with h | h
    · have : m = 0 := by
        rcases Nat.eq_zero_or_pos m with k | k
        · exact k
        · have := vf_pos hb.lm hb.fm k; have := hb.nv; omega
      simp [h, this]
    · have := hb.pos (by omega)
      simp [h, this]
  simp only [rfB, ha.wf, (fmB_iff g m).2 hb.fm, h1, h2, h3, Bool.true_and]
theorem rn_made {w s x n c f u y m d g} {D L : Nat} (ha : Wn w s x n c f u) (hb : Wn w false y m d g ((D : Nat) : Int)) (h0 : 0 < D) (hg : u.natAbs.gcd D = 1) (hn : n ≤ L) (hm : m ≤ L) : Rn L w s x n c f y m d g ((u : Rat) / (((D : Nat) : Int) : Rat)) := by
  have e0 : ((D : Nat) : Int).natAbs = D := by omega
  obtain ⟨e1, e2⟩ := make_made (u := u) (v := ((D : Nat) : Int)) (s := s) (t := false) ha.sgn (by show ((D : Nat) : Int) = (((D : Nat) : Int).natAbs : Int); omega) (by omega)
  rw [e0, hg, Nat.div_one] at e1 e2
  refine ⟨?_, ?_, hn, hm⟩
  · have e3 : (s != false) = s := by cases s <;> rfl
    rw [e1, e3, ← ha.sgn]; exact ha
  · rw [e2]; exact hb
theorem rn_whole {w s x n c f u y m d g} {L : Nat} (ha : Wn w s x n c f u) (hb : Wn w false y m d g 1) (hn : n ≤ L) (hm : m ≤ L) : Rn L w s x n c f y m d g (u : Rat) := by
  refine ⟨?_, ?_, hn, hm⟩
  · rw [Rat.num_intCast]; exact ha
  · rw [Rat.den_intCast]; exact hb
theorem sgn_same {w s x n c f u r} (ha : Wn w s x n c f u) (hr : r = (s && decide (0 < n))) : r = s := by
  rw [hr]
  have := ((wfB_iff _ _ _).1 ha.wf).2
  cases s
  · rfl
  · simp; exact this rfl
theorem rt_no1 {b L i} (hi : Bar b L i) (h : ∀ u, ¬ IsWh b i u) : ∀ q, ¬ RT b L q := by
  rintro q (⟨j, u, k1, k2, _⟩ | ⟨u, k1, _⟩)
  · have := hi.uniq k1; subst this; exact h u k2
  · exact hi.no k1
theorem rt_no2 {b L i} (hi : Bar b L i) (h : ¬ (IsNum (bsh b (i + 1)) (L - (i + 1)) ∧ dn (bsh b (i + 1)) (L - (i + 1)) ≠ 1)) : ∀ q, ¬ RT b L q := by
  rintro q (⟨j, u, k1, k2, k3, k4, _⟩ | ⟨u, k1, _⟩)
  · have := hi.uniq k1; subst this; exact h ⟨k3, by omega⟩
  · exact hi.no k1
theorem rt_no3 {b L i u} (hi : Bar b L i) (hu : IsWh b i u) (h : ¬ (0 < dn (bsh b (i + 1)) (L - (i + 1)) ∧ u.natAbs.gcd (dn (bsh b (i + 1)) (L - (i + 1))) = 1)) : ∀ q, ¬ RT b L q := by
  rintro q (⟨j, v, k1, k2, k3, k4, k5, _⟩ | ⟨u, k1, _⟩)
  · have := hi.uniq k1; subst this
    have := hu.uniq k2; subst this
    exact h ⟨by omega, k5⟩
  · exact hi.no k1
theorem rt_no4 {b L} (hi : NoBar b L) (h : ∀ u, ¬ IsWh b L u) : ∀ q, ¬ RT b L q := by
  rintro q (⟨j, u, k1, k2, _⟩ | ⟨u, k1, k2, _⟩)
  · exact k1.no hi
  · exact h u k2
theorem rt_yes {b L i u} (hi : Bar b L i) (hu : IsWh b i u) (h1 : IsNum (bsh b (i + 1)) (L - (i + 1)) ∧ dn (bsh b (i + 1)) (L - (i + 1)) ≠ 1) (h : 0 < dn (bsh b (i + 1)) (L - (i + 1)) ∧ u.natAbs.gcd (dn (bsh b (i + 1)) (L - (i + 1))) = 1) : RT b L ((u : Rat) / (((dn (bsh b (i + 1)) (L - (i + 1)) : Nat) : Int) : Rat)) :=
  .inl ⟨i, u, hi, hu, h1.1, by have := h1.2; omega, h.2, rfl⟩

set_option maxRecDepth 100000 in
set_option maxHeartbeats 4000000 in
theorem rReadLong_c (t : ByteArray) (w : World) (hL : 1048576 < t.size) :
    Calls Tryz.prog 49 #[.string t] w fun e w' => e = .returned (.tuple #[.agg #[.bool false, .slice none 0 0, .slice none 0 0], .int .i64 2]) ∧ Below w.heap.size w w' := by
  have hd : decide ((1048576 : Int) < (t.size : Int)) = true := by simp; omega
  go_enter Tryz.func49, Tryz.ntmps49
  go_wp2
  exact bodyPost_ret (v := .tuple #[.agg #[.bool false, .slice none 0 0, .slice none 0 0], .int .i64 2]) (by simp [results, Tryz.results49, go_sem]) rfl ⟨rfl, below_alloc (Below.refl _ _) _⟩

set_option maxRecDepth 100000 in
set_option maxHeartbeats 8000000 in
theorem rReadBar_c (t : ByteArray) (L : Nat) (b : Nat → Nat) (i : Nat) (w : World) (hs : Sb t L b) (hL : L ≤ 1000) (hi : Bar b L i) :
    Calls Tryz.prog 49 #[.string t] w fun e w' => ∃ s x n c f y m d g er, e = .returned (.tuple #[.agg #[.bool s, .slice x n c, .slice y m d], .int .i64 er]) ∧ Below w.heap.size w w' ∧ RRead b L w' s x n c f y m d g er := by
  have h3 := ob_new w 32
  have h4 := below_alloc (Below.refl w.heap.size w) (.cells #[.bool false, .slice none 0 0, .slice none 0 0] 32)
  have hsz := hs.1
  have hiL := hi.1
  have hd : decide ((1048576 : Int) < (t.size : Int)) = false := by simp; omega
  have S1 := hid (hs.take (c := i) (by omega)); have S2 := hid (hs.drop (c := i + 1) (by omega))
  have CUT := hid (fun W => cutBar_c hs (by omega) hi W)
  have HI := hid hi
  clear hs hi hsz
  generalize t.extract 0 i = ta at *
  generalize t.extract (i + 1) L = tb at *
  go_enter Tryz.func49, Tryz.ntmps49
  go_wp2_with fail
  generalize w.alloc (.cells #[.bool false, .slice none 0 0, .slice none 0 0] 32) = w1 at *
  have OB1 := hid h3; have HW1 := hid h4
  clear h3 h4
  refine (CUT.out _).mono ?_
  rintro e w2 ⟨rfl, hb⟩
  have OB2 := hid (OB1.out.below hb); have HW2 := hid (HW1.out.trans (hb.mono HW1.out.size))
  clear hb OB1 HW1 CUT hd
  go_wp2_with fail
  refine (wRead_c ta i b _ S1.out (by omega)).mono ?_
  rintro e w3 ⟨s3, x3, k3, c3, f3, er, rfl, hr, hans⟩
  have hb := hr.res.bel
  have WA3 := hid ((hr.wn rfl).alloc (.cells #[.bool s3, .slice x3 k3 c3] 24)); have OB3 := hid ((OB2.out.below hb).alloc (.cells #[.bool s3, .slice x3 k3 c3] 24)); have HW3 := hid (below_alloc (HW2.out.trans (hb.mono HW2.out.size)) (.cells #[.bool s3, .slice x3 k3 c3] 24))
  have BA3 : Hid (Bx (w3.alloc (.cells #[.bool s3, .slice x3 k3 c3] 24)) w3.heap.size s3 x3 k3 c3) := ⟨by simp, kN0, kN1⟩
  have hcs := wread_cases hans (by omega)
  clear hb hr hans OB2 HW2
  rcases hcs with ⟨rfl, hwh⟩ | ⟨rfl, hno⟩
  rotate_left
  · have NO := hid (rt_no1 HI.out hno)
    clear hno
    go_upto_region 5 with fail
    generalize w3.alloc (.cells #[.bool s3, .slice x3 k3 c3] 24) = w4 at *
    generalize w3.heap.size = b3 at *
    obtain ⟨hz, z0, z1, z2, zf⟩ := OB3.out
    go_wp2
    exact bodyPost_ret (v := .tuple #[.agg #[.bool false, .slice none 0 0, .slice none 0 0], .int .i64 11]) (by simp [results, Tryz.results49, go_sem, z0, z1, z2]) rfl ⟨false, none, 0, 0, fun _ => 0, none, 0, 0, fun _ => 0, 11, rfl, below_st HW3.out (Nat.le_refl _), .inr (.inr ⟨by omega, NO.out, rfl, rfl, rfl, rfl⟩)⟩
  have HWh := hid hwh
  have hk3 := isWh_len WA3.out hwh
  clear hwh
  generalize wv s3 f3 k3 = u at *
  go_wp2_with fail
  generalize w3.alloc (.cells #[.bool s3, .slice x3 k3 c3] 24) = w4 at *
  generalize w3.heap.size = b3 at *
  refine (ratOne_c _).mono ?_
  rintro e w5 ⟨x5, f5, rfl, hb, _⟩
  have OB5 := hid (OB3.out.below hb); have HW5 := hid (HW3.out.trans (hb.mono HW3.out.size)); have BA5 := hid (BA3.out.below hb); have WA5 := hid (WA3.out.below hb)
  clear hb OB3 HW3 BA3 WA3
  go_wp2_with fail
  refine (readDen_c tb (L - (i + 1)) (bsh b (i + 1)) _ S2.out (by omega)).mono ?_
  rintro e w6 ⟨x6, k6, c6, f6, e6, rfl, hb, HD⟩
  have OB6 := hid (OB5.out.below hb); have HW6 := hid (HW5.out.trans (hb.mono HW5.out.size)); have BA6 := hid (BA5.out.below hb); have WA6 := hid (WA5.out.below hb)
  clear hb OB5 HW5 BA5 WA5
  obtain ⟨za, a0, a1⟩ := BA6.out
  go_wp2_with fail
  refine (rsigned_c s3 x3 x6 k3 c3 k6 c6 _ (by omega)).mono ?_
  rintro e w7 ⟨r7, rfl, HR7, hb⟩
  obtain rfl := sgn_same WA6.out HR7.out
  have OB7 := hid ((OB6.out.below hb).alloc (.cells #[.bool r7, .slice x3 k3 c3, .slice x6 k6 c6] 32)); have HW7 := hid (below_alloc (HW6.out.trans (hb.mono HW6.out.size)) (.cells #[.bool r7, .slice x3 k3 c3, .slice x6 k6 c6] 32)); have WA7 := hid ((WA6.out.below hb).alloc (.cells #[.bool r7, .slice x3 k3 c3, .slice x6 k6 c6] 32))
  have BR7 := hid (bx3_at w7 (.bool r7) (.slice x3 k3 c3) (.slice x6 k6 c6) 32)
  have hdr := HD.out
  have HB7 := hid hb
  clear hb OB6 HW6 BA6 za a0 a1 HD
  rcases hdr with ⟨hnum, rfl, hwd⟩ | ⟨hno, rfl⟩
  rotate_left
  · have NO := hid (rt_no2 HI.out hno)
    clear hno
    go_upto_region 11 with fail
    generalize w7.alloc (.cells #[.bool r7, .slice x3 k3 c3, .slice x6 k6 c6] 32) = w8 at *
    generalize w7.heap.size = b8 at *
    obtain ⟨hz, z0, z1, z2, zf⟩ := OB7.out
    go_wp2
    exact bodyPost_ret (v := .tuple #[.agg #[.bool false, .slice none 0 0, .slice none 0 0], .int .i64 11]) (by simp [results, Tryz.results49, go_sem, z0, z1, z2]) rfl ⟨false, none, 0, 0, fun _ => 0, none, 0, 0, fun _ => 0, 11, rfl, below_st HW7.out (Nat.le_refl _), .inr (.inr ⟨by omega, NO.out, rfl, rfl, rfl, rfl⟩)⟩
  have HNm := hid hnum
  have WD7 := hid ((hwd.below HB7.out).alloc (.cells #[.bool r7, .slice x3 k3 c3, .slice x6 k6 c6] 32))
  have hk6 := hwd.len_dn hnum.1.1
  clear hnum hwd
  have hrf := rf_eq WA7.out WD7.out
  go_upto_region 11 with fail
  generalize w7.alloc (.cells #[.bool r7, .slice x3 k3 c3, .slice x6 k6 c6] 32) = w8 at *
  generalize w7.heap.size = b8 at *
  have c8 := rForm_c (w := w8) (s := r7) (⟨WA7.out.rd, WA7.out.lm, WA7.out.cap, WA7.out.nil, WD7.out.rd, WD7.out.lm, WD7.out.cap, WD7.out.nil⟩ : Rw _ x3 k3 c3 f3 x6 k6 c6 f6) (by omega) (by omega)
  rw [hrf] at c8
  clear hrf
  by_cases hg : 0 < dn (bsh b (i + 1)) (L - (i + 1)) ∧ u.natAbs.gcd (dn (bsh b (i + 1)) (L - (i + 1))) = 1
  · rw [show (decide (0 < dn (bsh b (i + 1)) (L - (i + 1))) && decide (u.natAbs.gcd (dn (bsh b (i + 1)) (L - (i + 1))) = 1)) = true by simp [hg.1, hg.2]] at c8
    have C8 := hid c8
    have RN := hid (rn_made (L := 2000) WA7.out WD7.out hg.1 hg.2 (by omega) (by omega))
    have YES := hid (rt_yes HI.out HWh.out HNm.out hg)
    clear c8 hg
    obtain ⟨zr, r0, r1, r2⟩ := BR7.out
    go_wp2_with fail
    refine C8.out.mono ?_
    rintro e w9 ⟨rfl, hb⟩
    have OB9 := hid (OB7.out.below hb); have HW9 := hid (HW7.out.trans (hb.mono HW7.out.size)); have RN9 := hid (RN.out.below hb); have BR9 := hid (BR7.out.below hb)
    clear hb zr r0 r1 r2
    obtain ⟨zr, r0, r1, r2⟩ := BR9.out
    obtain ⟨hz, z0, z1, z2, zf⟩ := OB9.out
    go_wp2
    exact bodyPost_ret (v := .tuple #[.agg #[.bool r7, .slice x3 k3 c3, .slice x6 k6 c6], .int .i64 0]) (by simp [results, Tryz.results49, go_sem, z0, z1, z2]) rfl ⟨r7, x3, k3, c3, f3, x6, k6, c6, f6, 0, rfl, below_st HW9.out (Nat.le_refl _), .inr (.inl ⟨by omega, ⟨_, YES.out, OB9.out.rn RN9.out⟩, rfl⟩)⟩
  · rw [show (decide (0 < dn (bsh b (i + 1)) (L - (i + 1))) && decide (u.natAbs.gcd (dn (bsh b (i + 1)) (L - (i + 1))) = 1)) = false by
      rw [Bool.and_eq_false_iff, decide_eq_false_iff_not, decide_eq_false_iff_not]
      by_cases h : 0 < dn (bsh b (i + 1)) (L - (i + 1))
      · exact .inr (fun k => hg ⟨h, k⟩)
      · exact .inl h] at c8
    have C8 := hid c8
    have NO := hid (rt_no3 HI.out HWh.out hg)
    clear c8 hg
    obtain ⟨zr, r0, r1, r2⟩ := BR7.out
    go_wp2_with fail
    refine C8.out.mono ?_
    rintro e w9 ⟨rfl, hb⟩
    have OB9 := hid (OB7.out.below hb); have HW9 := hid (HW7.out.trans (hb.mono HW7.out.size))
    clear hb zr r0 r1 r2
    obtain ⟨hz, z0, z1, z2, zf⟩ := OB9.out
    go_wp2
    exact bodyPost_ret (v := .tuple #[.agg #[.bool false, .slice none 0 0, .slice none 0 0], .int .i64 11]) (by simp [results, Tryz.results49, go_sem, z0, z1, z2]) rfl ⟨false, none, 0, 0, fun _ => 0, none, 0, 0, fun _ => 0, 11, rfl, below_st HW9.out (Nat.le_refl _), .inr (.inr ⟨by omega, NO.out, rfl, rfl, rfl, rfl⟩)⟩

set_option maxRecDepth 100000 in
set_option maxHeartbeats 8000000 in
theorem rReadNone_c (t : ByteArray) (L : Nat) (b : Nat → Nat) (w : World) (hs : Sb t L b) (hL : L ≤ 1000) (hi : NoBar b L) :
    Calls Tryz.prog 49 #[.string t] w fun e w' => ∃ s x n c f y m d g er, e = .returned (.tuple #[.agg #[.bool s, .slice x n c, .slice y m d], .int .i64 er]) ∧ Below w.heap.size w w' ∧ RRead b L w' s x n c f y m d g er := by
  have h3 := ob_new w 32
  have h4 := below_alloc (Below.refl w.heap.size w) (.cells #[.bool false, .slice none 0 0, .slice none 0 0] 32)
  have hsz := hs.1
  have hd : decide ((1048576 : Int) < (t.size : Int)) = false := by simp; omega
  have S1 := hid hs
  have CUT := hid (fun W => cutNone_c hs (by omega) hi W)
  have HI := hid hi
  clear hs hi hsz
  go_enter Tryz.func49, Tryz.ntmps49
  go_wp2_with fail
  generalize w.alloc (.cells #[.bool false, .slice none 0 0, .slice none 0 0] 32) = w1 at *
  have OB1 := hid h3; have HW1 := hid h4
  clear h3 h4
  refine (CUT.out _).mono ?_
  rintro e w2 ⟨rfl, hb⟩
  have OB2 := hid (OB1.out.below hb); have HW2 := hid (HW1.out.trans (hb.mono HW1.out.size))
  clear hb OB1 HW1 CUT hd
  go_wp2_with fail
  refine (wRead_c t L b _ S1.out (by omega)).mono ?_
  rintro e w3 ⟨s3, x3, k3, c3, f3, er, rfl, hr, hans⟩
  have hb := hr.res.bel
  have WA3 := hid ((hr.wn rfl).alloc (.cells #[.bool s3, .slice x3 k3 c3] 24)); have OB3 := hid ((OB2.out.below hb).alloc (.cells #[.bool s3, .slice x3 k3 c3] 24)); have HW3 := hid (below_alloc (HW2.out.trans (hb.mono HW2.out.size)) (.cells #[.bool s3, .slice x3 k3 c3] 24))
  have BA3 : Hid (Bx (w3.alloc (.cells #[.bool s3, .slice x3 k3 c3] 24)) w3.heap.size s3 x3 k3 c3) := ⟨by simp, kN0, kN1⟩
  have hcs := wread_cases hans (by omega)
  clear hb hr hans OB2 HW2
  rcases hcs with ⟨rfl, hwh⟩ | ⟨rfl, hno⟩
  rotate_left
  · have NO := hid (rt_no4 HI.out hno)
    clear hno
    go_upto_region 5 with fail
    generalize w3.alloc (.cells #[.bool s3, .slice x3 k3 c3] 24) = w4 at *
    generalize w3.heap.size = b3 at *
    obtain ⟨hz, z0, z1, z2, zf⟩ := OB3.out
    go_wp2
    exact bodyPost_ret (v := .tuple #[.agg #[.bool false, .slice none 0 0, .slice none 0 0], .int .i64 11]) (by simp [results, Tryz.results49, go_sem, z0, z1, z2]) rfl ⟨false, none, 0, 0, fun _ => 0, none, 0, 0, fun _ => 0, 11, rfl, below_st HW3.out (Nat.le_refl _), .inr (.inr ⟨by omega, NO.out, rfl, rfl, rfl, rfl⟩)⟩
  have HWh := hid hwh
  have hk3 := isWh_len WA3.out hwh
  clear hwh
  generalize wv s3 f3 k3 = u at *
  go_wp2_with fail
  generalize w3.alloc (.cells #[.bool s3, .slice x3 k3 c3] 24) = w4 at *
  generalize w3.heap.size = b3 at *
  refine (ratOne_c _).mono ?_
  rintro e w5 ⟨x5, f5, rfl, hb, hone⟩
  have OB5 := hid (OB3.out.below hb); have HW5 := hid (HW3.out.trans (hb.mono HW3.out.size)); have BA5 := hid (BA3.out.below hb); have WA5 := hid (WA3.out.below hb); have WD5 := hid hone
  clear hb OB3 HW3 BA3 WA3 hone
  obtain ⟨za, a0, a1⟩ := BA5.out
  go_wp2_with fail
  refine (rsigned_c s3 x3 x5 k3 c3 1 1 _ (by omega)).mono ?_
  rintro e w7 ⟨r7, rfl, HR7, hb⟩
  obtain rfl := sgn_same WA5.out HR7.out
  have OB7 := hid ((OB5.out.below hb).alloc (.cells #[.bool r7, .slice x3 k3 c3, .slice x5 1 1] 32)); have HW7 := hid (below_alloc (HW5.out.trans (hb.mono HW5.out.size)) (.cells #[.bool r7, .slice x3 k3 c3, .slice x5 1 1] 32)); have WA7 := hid ((WA5.out.below hb).alloc (.cells #[.bool r7, .slice x3 k3 c3, .slice x5 1 1] 32)); have WD7 := hid ((WD5.out.below hb).alloc (.cells #[.bool r7, .slice x3 k3 c3, .slice x5 1 1] 32))
  have BR7 := hid (bx3_at w7 (.bool r7) (.slice x3 k3 c3) (.slice x5 1 1) 32)
  clear hb OB5 HW5 BA5 WA5 WD5 za a0 a1
  have hrf : rfB r7 f3 k3 f5 1 = true := by
    rw [rf_eq (D := 1) WA7.out WD7.out]; simp
  go_upto_region 11 with fail
  generalize w7.alloc (.cells #[.bool r7, .slice x3 k3 c3, .slice x5 1 1] 32) = w8 at *
  generalize w7.heap.size = b8 at *
  have c8 := rForm_c (w := w8) (s := r7) (⟨WA7.out.rd, WA7.out.lm, WA7.out.cap, WA7.out.nil, WD7.out.rd, WD7.out.lm, WD7.out.cap, WD7.out.nil⟩ : Rw _ x3 k3 c3 f3 x5 1 1 f5) (by omega) (by omega)
  rw [hrf] at c8
  have C8 := hid c8
  have RN := hid (rn_whole (L := 2000) WA7.out WD7.out (by omega) (by omega))
  have YES : Hid (RT b L (u : Rat)) := .inr ⟨u, HI.out, HWh.out, rfl⟩
  clear hrf c8
  obtain ⟨zr, r0, r1, r2⟩ := BR7.out
  go_wp2_with fail
  refine C8.out.mono ?_
  rintro e w9 ⟨rfl, hb⟩
  have OB9 := hid (OB7.out.below hb); have HW9 := hid (HW7.out.trans (hb.mono HW7.out.size)); have RN9 := hid (RN.out.below hb); have BR9 := hid (BR7.out.below hb)
  clear hb zr r0 r1 r2
  obtain ⟨zr, r0, r1, r2⟩ := BR9.out
  obtain ⟨hz, z0, z1, z2, zf⟩ := OB9.out
  go_wp2
  exact bodyPost_ret (v := .tuple #[.agg #[.bool r7, .slice x3 k3 c3, .slice x5 1 1], .int .i64 0]) (by simp [results, Tryz.results49, go_sem, z0, z1, z2]) rfl ⟨r7, x3, k3, c3, f3, x5, 1, 1, f5, 0, rfl, below_st HW9.out (Nat.le_refl _), .inr (.inl ⟨by omega, ⟨_, YES.out, OB9.out.rn RN9.out⟩, rfl⟩)⟩

theorem rRead_g (t : ByteArray) (b : Nat → Nat) (w : World) (hs : Sb t t.size b) (hL : t.size ≤ 1000 ∨ 1048576 < t.size) :
    Calls Tryz.prog 49 #[.string t] w fun e w' => ∃ s x n c f y m d g er, e = .returned (.tuple #[.agg #[.bool s, .slice x n c, .slice y m d], .int .i64 er]) ∧ Below w.heap.size w w' ∧ RRead b t.size w' s x n c f y m d g er := by
  rcases hL with hL | hL
  · rcases bar_or b t.size with ⟨i, hi⟩ | hi
    · exact rReadBar_c t t.size b i w hs hL hi
    · exact rReadNone_c t t.size b w hs hL hi
  · exact (rReadLong_c t w hL).mono (fun _ _ ⟨h1, h2⟩ => ⟨false, none, 0, 0, fun _ => 0, none, 0, 0, fun _ => 0, 2, h1, h2, .inl ⟨hL, rfl, rfl, rfl, rfl⟩⟩)
end Go.Proofs.YtclopblgdiahiaaGreatDoor

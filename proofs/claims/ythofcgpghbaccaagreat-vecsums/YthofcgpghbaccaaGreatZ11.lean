/-
  The walk of the statements' own look at answers of vec that the document fixes (awake). Columns of sums and of lists of numbers, lengths; Dot whatever it is handed.
-/
import Derived.Test.YthofcgpghbaccaaGreatZ10
import Derived.BigQuiet
import Derived.Deep.RegionHeld3
namespace Go.Proofs.YthofcgpghbaccaaGreat
open Go.RowKit

theorem tf_one {L : Nat} {w : World} {k1 : Int} {s1 : Bool} {x1 : Option Addr} {n1 c1 : Nat} {f1 : Nat → Int} {y1 : Option Addr} {m1 d1 : Nat} {g1 : Nat → Int} {q1 : Rat} (h1 : Rn L w s1 x1 n1 c1 f1 y1 m1 d1 g1 q1) : Tf L (w.alloc (.cells #[.int .i64 k1, .bool s1, .slice x1 n1 c1, .slice y1 m1 d1] 69)) (some ⟨w.heap.size, 0, none⟩) [(k1, q1)] :=
  tf_alloc [(k1, ⟨s1, x1, n1, c1, f1, y1, m1, d1, g1⟩)] _ (fun j a q hj => by
    rcases j with _ | j
    · simp at hj; obtain ⟨rfl, rfl⟩ := hj; exact ⟨_, rfl, h1⟩
    · simp at hj)
theorem tf_two {L : Nat} {w : World} {k1 k2 : Int} {s1 : Bool} {x1 : Option Addr} {n1 c1 : Nat} {f1 : Nat → Int} {y1 : Option Addr} {m1 d1 : Nat} {g1 : Nat → Int} {q1 : Rat} {s2 : Bool} {x2 : Option Addr} {n2 c2 : Nat} {f2 : Nat → Int} {y2 : Option Addr} {m2 d2 : Nat} {g2 : Nat → Int} {q2 : Rat} (h1 : Rn L w s1 x1 n1 c1 f1 y1 m1 d1 g1 q1) (h2 : Rn L w s2 x2 n2 c2 f2 y2 m2 d2 g2 q2) : Tf L (w.alloc (.cells #[.int .i64 k1, .bool s1, .slice x1 n1 c1, .slice y1 m1 d1, .int .i64 k2, .bool s2, .slice x2 n2 c2, .slice y2 m2 d2] 69)) (some ⟨w.heap.size, 0, none⟩) [(k1, q1), (k2, q2)] :=
  tf_alloc [(k1, ⟨s1, x1, n1, c1, f1, y1, m1, d1, g1⟩), (k2, ⟨s2, x2, n2, c2, f2, y2, m2, d2, g2⟩)] _ (fun j a q hj => by
    rcases j with _ | _ | j
    · simp at hj; obtain ⟨rfl, rfl⟩ := hj; exact ⟨_, rfl, h1⟩
    · simp at hj; obtain ⟨rfl, rfl⟩ := hj; exact ⟨_, rfl, h2⟩
    · simp at hj)
theorem tf_three {L : Nat} {w : World} {k1 k2 k3 : Int} {s1 : Bool} {x1 : Option Addr} {n1 c1 : Nat} {f1 : Nat → Int} {y1 : Option Addr} {m1 d1 : Nat} {g1 : Nat → Int} {q1 : Rat} {s2 : Bool} {x2 : Option Addr} {n2 c2 : Nat} {f2 : Nat → Int} {y2 : Option Addr} {m2 d2 : Nat} {g2 : Nat → Int} {q2 : Rat} {s3 : Bool} {x3 : Option Addr} {n3 c3 : Nat} {f3 : Nat → Int} {y3 : Option Addr} {m3 d3 : Nat} {g3 : Nat → Int} {q3 : Rat} (h1 : Rn L w s1 x1 n1 c1 f1 y1 m1 d1 g1 q1) (h2 : Rn L w s2 x2 n2 c2 f2 y2 m2 d2 g2 q2) (h3 : Rn L w s3 x3 n3 c3 f3 y3 m3 d3 g3 q3) : Tf L (w.alloc (.cells #[.int .i64 k1, .bool s1, .slice x1 n1 c1, .slice y1 m1 d1, .int .i64 k2, .bool s2, .slice x2 n2 c2, .slice y2 m2 d2, .int .i64 k3, .bool s3, .slice x3 n3 c3, .slice y3 m3 d3] 69)) (some ⟨w.heap.size, 0, none⟩) [(k1, q1), (k2, q2), (k3, q3)] :=
  tf_alloc [(k1, ⟨s1, x1, n1, c1, f1, y1, m1, d1, g1⟩), (k2, ⟨s2, x2, n2, c2, f2, y2, m2, d2, g2⟩), (k3, ⟨s3, x3, n3, c3, f3, y3, m3, d3, g3⟩)] _ (fun j a q hj => by
    rcases j with _ | _ | _ | j
    · simp at hj; obtain ⟨rfl, rfl⟩ := hj; exact ⟨_, rfl, h1⟩
    · simp at hj; obtain ⟨rfl, rfl⟩ := hj; exact ⟨_, rfl, h2⟩
    · simp at hj; obtain ⟨rfl, rfl⟩ := hj; exact ⟨_, rfl, h3⟩
    · simp at hj)
theorem rf_three {L : Nat} {w : World} {s1 : Bool} {x1 : Option Addr} {n1 c1 : Nat} {f1 : Nat → Int} {y1 : Option Addr} {m1 d1 : Nat} {g1 : Nat → Int} {q1 : Rat} {s2 : Bool} {x2 : Option Addr} {n2 c2 : Nat} {f2 : Nat → Int} {y2 : Option Addr} {m2 d2 : Nat} {g2 : Nat → Int} {q2 : Rat} {s3 : Bool} {x3 : Option Addr} {n3 c3 : Nat} {f3 : Nat → Int} {y3 : Option Addr} {m3 d3 : Nat} {g3 : Nat → Int} {q3 : Rat} (h1 : Rn L w s1 x1 n1 c1 f1 y1 m1 d1 g1 q1) (h2 : Rn L w s2 x2 n2 c2 f2 y2 m2 d2 g2 q2) (h3 : Rn L w s3 x3 n3 c3 f3 y3 m3 d3 g3 q3) : Rf L (w.alloc (.cells #[.bool s1, .slice x1 n1 c1, .slice y1 m1 d1, .bool s2, .slice x2 n2 c2, .slice y2 m2 d2, .bool s3, .slice x3 n3 c3, .slice y3 m3 d3] 25)) (some ⟨w.heap.size, 0, none⟩) [q1, q2, q3] :=
  rf_alloc [⟨s1, x1, n1, c1, f1, y1, m1, d1, g1⟩, ⟨s2, x2, n2, c2, f2, y2, m2, d2, g2⟩, ⟨s3, x3, n3, c3, f3, y3, m3, d3, g3⟩] _ (fun j q hj => by
    rcases j with _ | _ | _ | j
    · simp at hj; subst hj; exact ⟨_, rfl, h1⟩
    · simp at hj; subst hj; exact ⟨_, rfl, h2⟩
    · simp at hj; subst hj; exact ⟨_, rfl, h3⟩
    · simp at hj)
theorem aw_mg : mg ((-3 : Int) : Rat) [((0 : Int), ((1 : Int) : Rat)), ((2 : Int), ((3 : Int) : Rat))] [((0 : Int), ((2 : Int) : Rat)), ((1 : Int), ((1 : Int) : Rat))] = [((0 : Int), ((-5 : Int) : Rat)), ((1 : Int), ((-3 : Int) : Rat)), ((2 : Int), ((3 : Int) : Rat))] := by
  rw [mg_eq, mg_gt _ _ _ _ _ _ _ (by decide), mg_cn, mg_nn]; decide +kernel
theorem aw_dot : dsum [((5 : Int) : Rat), ((6 : Int) : Rat), ((7 : Int) : Rat)] [((0 : Int), ((2 : Int) : Rat)), ((2 : Int), ((1 : Int) : Rat))] 0 = ((17 : Int) : Rat) := by decide +kernel
theorem aw_dense : dense 3 [((1 : Int), ((4 : Int) : Rat))] = [0, ((4 : Int) : Rat), 0] := by decide +kernel
theorem aw_v1 : Vf [((0 : Int), ((1 : Int) : Rat)), ((2 : Int), ((3 : Int) : Rat))] := Vr.vf (l := -1) (by decide) (show Vr (-1) [((0 : Int), ((1 : Int) : Rat)), ((2 : Int), ((3 : Int) : Rat))] from ⟨by decide, by decide +kernel, ⟨by decide, by decide +kernel, trivial⟩⟩)
theorem aw_v2 : Vf [((0 : Int), ((2 : Int) : Rat)), ((1 : Int), ((1 : Int) : Rat))] := Vr.vf (l := -1) (by decide) (show Vr (-1) [((0 : Int), ((2 : Int) : Rat)), ((1 : Int), ((1 : Int) : Rat))] from ⟨by decide, by decide +kernel, ⟨by decide, by decide +kernel, trivial⟩⟩)
theorem aw_v3 : Vf [((0 : Int), ((2 : Int) : Rat)), ((2 : Int), ((1 : Int) : Rat))] := Vr.vf (l := -1) (by decide) (show Vr (-1) [((0 : Int), ((2 : Int) : Rat)), ((2 : Int), ((1 : Int) : Rat))] from ⟨by decide, by decide +kernel, ⟨by decide, by decide +kernel, trivial⟩⟩)
theorem aw_v4 : Vf [((1 : Int), ((4 : Int) : Rat))] := Vr.vf (l := -1) (by decide) (show Vr (-1) [((1 : Int), ((4 : Int) : Rat))] from ⟨by decide, by decide +kernel, trivial⟩)
theorem aw_b3 : ∀ (j : Nat) (a : Int) (q : Rat), ([((0 : Int), ((2 : Int) : Rat)), ((2 : Int), ((1 : Int) : Rat))] : List (Int × Rat))[j]? = some (a, q) → a < ((3 : Nat) : Int) := fun j a q hj => by
  rcases j with _ | _ | j
  · simp at hj; omega
  · simp at hj; omega
  · simp at hj
theorem aw_b4 : ∀ (j : Nat) (a : Int) (q : Rat), ([((1 : Int), ((4 : Int) : Rat))] : List (Int × Rat))[j]? = some (a, q) → a < ((3 : Nat) : Int) := fun j a q hj => by
  rcases j with _ | j
  · simp at hj; omega
  · simp at hj
theorem kTfd {L : Nat} {w : World} {ao : Option Addr} {v : List (Int × Rat)} (h : Tf L w ao v) : Tf L w.drew ao v := h.below (Below.refl _ _).drew
theorem vForm_zero {W : World} {B : Nat} (h : Tf 4 W (some ⟨B, 0, none⟩) [((0 : Int), ((0 : Int) : Rat))]) : Calls Tryz.prog 16 #[.slice (some ⟨B, 0, none⟩) 1 1] W fun e w' => e = .returned (.bool false) ∧ Below W.heap.size W w' := by
  obtain ⟨b, o, t, he, hc, hr⟩ := h 0 0 _ rfl
  have hT : Tl W (some ⟨B, 0, none⟩) 1 (fun _ => 0) (fun _ => t) := fun j hj => by
    obtain rfl : j = 0 := by omega
    exact ⟨b, o, he, hc, (hr.nm (by decide)).1⟩
  have hf : tfB 1 (fun _ => 0) (fun _ => t) = false := by
    have h0 : t.n = 0 := hr.zero_iff.2 (by decide +kernel)
    show (decide ((-1 : Int) < 0) && (nfB t && (decide (0 < t.n) && true))) = false
    rw [h0]; simp
  have h3 := vForm_c (cap := 1) hT (by decide)
  rw [hf] at h3
  exact h3
set_option maxRecDepth 100000 in
set_option maxHeartbeats 8000000 in
theorem vAwake_c (w : World) : Calls Tryz.prog 8 #[] w fun e w' => e = .returned (.bool true) ∧ Below w.heap.size w w' := by
  go_enter Tryz.func8, Tryz.ntmps8
  have HB : Hid (Below w.heap.size w w) := Below.refl _ _
  go_wp2_with fail
  refine (term_c (k := 0) (z := 1) (by decide) (by decide)).mono ?_
  rintro e w1 ⟨s1, x1, n1, c1, f1, y1, m1, d1, g1, rfl, hb, R1⟩
  replace HB := hid (HB.out.trans (hb.mono HB.out.size))
  clear hb
  go_wp2_with fail
  refine (term_c (k := 2) (z := 3) (by decide) (by decide)).mono ?_
  rintro e w2 ⟨s2, x2, n2, c2, f2, y2, m2, d2, g2, rfl, hb, R2⟩
  replace R1 := hid (R1.out.below hb)
  replace HB := hid (HB.out.trans (hb.mono HB.out.size))
  clear hb
  go_wp2_with fail
  have hT := tf_two (k1 := 0) (k2 := 2) R1.out R2.out
  have hb := below_alloc (Below.refl w2.heap.size w2) (.cells #[.int .i64 0, .bool s1, .slice x1 n1 c1, .slice y1 m1 d1, .int .i64 2, .bool s2, .slice x2 n2 c2, .slice y2 m2 d2] 69)
  generalize w2.alloc (.cells #[.int .i64 0, .bool s1, .slice x1 n1 c1, .slice y1 m1 d1, .int .i64 2, .bool s2, .slice x2 n2 c2, .slice y2 m2 d2] 69) = w3 at *
  have V1 := hid hT
  clear hT R1 R2
  replace HB := hid (HB.out.trans (hb.mono HB.out.size))
  clear hb
  go_wp2_with fail
  refine (docOfQ_c (z := -3) (by decide) (by decide)).mono ?_
  rintro e w4 ⟨s3, x3, n3, c3, f3, y3, m3, d3, g3, rfl, hb, hr⟩
  replace V1 := hid (V1.out.below hb)
  replace HB := hid (HB.out.trans (hb.mono HB.out.size))
  clear hb
  have R3 := hid hr
  clear hr
  go_wp2_with fail
  refine (term_c (k := 0) (z := 2) (by decide) (by decide)).mono ?_
  rintro e w5 ⟨s4, x4, n4, c4, f4, y4, m4, d4, g4, rfl, hb, R4⟩
  replace V1 := hid (V1.out.below hb)
  replace R3 := hid (R3.out.below hb)
  replace HB := hid (HB.out.trans (hb.mono HB.out.size))
  clear hb
  go_wp2_with fail
  refine (term_c (k := 1) (z := 1) (by decide) (by decide)).mono ?_
  rintro e w6 ⟨s5, x5, n5, c5, f5, y5, m5, d5, g5, rfl, hb, R5⟩
  replace V1 := hid (V1.out.below hb)
  replace R3 := hid (R3.out.below hb)
  replace R4 := hid (R4.out.below hb)
  replace HB := hid (HB.out.trans (hb.mono HB.out.size))
  clear hb
  go_wp2_with fail
  have hT := tf_two (k1 := 0) (k2 := 1) R4.out R5.out
  have hb := below_alloc (Below.refl w6.heap.size w6) (.cells #[.int .i64 0, .bool s4, .slice x4 n4 c4, .slice y4 m4 d4, .int .i64 1, .bool s5, .slice x5 n5 c5, .slice y5 m5 d5] 69)
  generalize w6.alloc (.cells #[.int .i64 0, .bool s4, .slice x4 n4 c4, .slice y4 m4 d4, .int .i64 1, .bool s5, .slice x5 n5 c5, .slice y5 m5 d5] 69) = w7 at *
  have V2 := hid hT
  clear hT R4 R5
  replace V1 := hid (V1.out.below hb)
  replace R3 := hid (R3.out.below hb)
  replace HB := hid (HB.out.trans (hb.mono HB.out.size))
  clear hb
  go_wp2_with fail
  refine (vPlus_v (k := 2) (k' := 2) V1.out aw_v1 V2.out aw_v2 R3.out rfl rfl (by decide) (by decide) (by decide) (by decide)).mono ?_
  rw [aw_mg]
  rintro e w8 ⟨ao, cao, rfl, hb, _, _, TA⟩
  clear V1 V2 R3
  replace HB := hid (HB.out.trans (hb.mono HB.out.size))
  clear hb
  go_wp2_with fail
  refine (term_c (k := 0) (z := 2) (by decide) (by decide)).mono ?_
  rintro e w9 ⟨s6, x6, n6, c6, f6, y6, m6, d6, g6, rfl, hb, R6⟩
  replace TA := hid (TA.out.below hb)
  replace HB := hid (HB.out.trans (hb.mono HB.out.size))
  clear hb
  go_wp2_with fail
  refine (term_c (k := 2) (z := 1) (by decide) (by decide)).mono ?_
  rintro e w10 ⟨s7, x7, n7, c7, f7, y7, m7, d7, g7, rfl, hb, R7⟩
  replace TA := hid (TA.out.below hb)
  replace R6 := hid (R6.out.below hb)
  replace HB := hid (HB.out.trans (hb.mono HB.out.size))
  clear hb
  go_wp2_with fail
  have hT := tf_two (k1 := 0) (k2 := 2) R6.out R7.out
  have hb := below_alloc (Below.refl w10.heap.size w10) (.cells #[.int .i64 0, .bool s6, .slice x6 n6 c6, .slice y6 m6 d6, .int .i64 2, .bool s7, .slice x7 n7 c7, .slice y7 m7 d7] 69)
  generalize w10.alloc (.cells #[.int .i64 0, .bool s6, .slice x6 n6 c6, .slice y6 m6 d6, .int .i64 2, .bool s7, .slice x7 n7 c7, .slice y7 m7 d7] 69) = w11 at *
  have V3 := hid hT
  clear hT R6 R7
  replace TA := hid (TA.out.below hb)
  replace HB := hid (HB.out.trans (hb.mono HB.out.size))
  clear hb
  go_wp2_with fail
  refine (docOfQ_c (z := 5) (by decide) (by decide)).mono ?_
  rintro e w12 ⟨s8, x8, n8, c8, f8, y8, m8, d8, g8, rfl, hb, hr⟩
  replace TA := hid (TA.out.below hb)
  replace V3 := hid (V3.out.below hb)
  replace HB := hid (HB.out.trans (hb.mono HB.out.size))
  clear hb
  have R8 := hid hr
  clear hr
  go_wp2_with fail
  refine (docOfQ_c (z := 6) (by decide) (by decide)).mono ?_
  rintro e w13 ⟨s9, x9, n9, c9, f9, y9, m9, d9, g9, rfl, hb, hr⟩
  replace TA := hid (TA.out.below hb)
  replace V3 := hid (V3.out.below hb)
  replace R8 := hid (R8.out.below hb)
  replace HB := hid (HB.out.trans (hb.mono HB.out.size))
  clear hb
  have R9 := hid hr
  clear hr
  go_wp2_with fail
  refine (docOfQ_c (z := 7) (by decide) (by decide)).mono ?_
  rintro e w14 ⟨s10, x10, n10, c10, f10, y10, m10, d10, g10, rfl, hb, hr⟩
  replace TA := hid (TA.out.below hb)
  replace V3 := hid (V3.out.below hb)
  replace R8 := hid (R8.out.below hb)
  replace R9 := hid (R9.out.below hb)
  replace HB := hid (HB.out.trans (hb.mono HB.out.size))
  clear hb
  have R10 := hid hr
  clear hr
  go_wp2_with fail
  have hT := rf_three R8.out R9.out R10.out
  have hb := below_alloc (Below.refl w14.heap.size w14) (.cells #[.bool s8, .slice x8 n8 c8, .slice y8 m8 d8, .bool s9, .slice x9 n9 c9, .slice y9 m9 d9, .bool s10, .slice x10 n10 c10, .slice y10 m10 d10] 25)
  generalize w14.alloc (.cells #[.bool s8, .slice x8 n8 c8, .slice y8 m8 d8, .bool s9, .slice x9 n9 c9, .slice y9 m9 d9, .bool s10, .slice x10 n10 c10, .slice y10 m10 d10] 25) = w15 at *
  have X1 := hid hT
  clear hT R8 R9 R10
  replace TA := hid (TA.out.below hb)
  replace V3 := hid (V3.out.below hb)
  replace HB := hid (HB.out.trans (hb.mono HB.out.size))
  clear hb
  go_wp2_with fail
  refine (vDot_v (k := 2) (kx := 3) V3.out aw_v3 X1.out rfl rfl (by decide) (by decide) (by decide) aw_b3).mono ?_
  rw [aw_dot]
  rintro e w16 ⟨s11, x11, n11, c11, f11, y11, m11, d11, g11, rfl, hb, hr⟩
  clear V3 X1
  replace TA := hid (TA.out.below hb)
  replace HB := hid (HB.out.trans (hb.mono HB.out.size))
  clear hb
  have R11 := hid hr
  clear hr
  go_upto_region 3 with fail
  have hX := bx3_at w16 (.bool s11) (.slice x11 n11 c11) (.slice y11 m11 d11) 25
  have hb := below_alloc (Below.refl w16.heap.size w16) (.cells #[.bool s11, .slice x11 n11 c11, .slice y11 m11 d11] 25)
  generalize w16.alloc (.cells #[.bool s11, .slice x11 n11 c11, .slice y11 m11 d11] 25) = w17 at *
  have BD := hid hX
  clear hX
  replace TA := hid (TA.out.below hb)
  replace R11 := hid (R11.out.below hb)
  replace HB := hid (HB.out.trans (hb.mono HB.out.size))
  clear hb
  generalize w16.heap.size = bd at *
  go_wp2_with fail
  refine (term_c (k := 1) (z := 4) (by decide) (by decide)).mono ?_
  rintro e w18 ⟨s12, x12, n12, c12, f12, y12, m12, d12, g12, rfl, hb, R12⟩
  replace TA := hid (TA.out.below hb)
  replace R11 := hid (R11.out.below hb)
  replace BD := hid (BD.out.below hb)
  replace HB := hid (HB.out.trans (hb.mono HB.out.size))
  clear hb
  go_wp2_with fail
  have hT := tf_one (k1 := 1) R12.out
  have hb := below_alloc (Below.refl w18.heap.size w18) (.cells #[.int .i64 1, .bool s12, .slice x12 n12 c12, .slice y12 m12 d12] 69)
  generalize w18.alloc (.cells #[.int .i64 1, .bool s12, .slice x12 n12 c12, .slice y12 m12 d12] 69) = w19 at *
  have V4 := hid hT
  clear hT R12
  replace TA := hid (TA.out.below hb)
  replace R11 := hid (R11.out.below hb)
  replace BD := hid (BD.out.below hb)
  replace HB := hid (HB.out.trans (hb.mono HB.out.size))
  clear hb
  go_wp2_with fail
  refine (vDense_v (k := 1) (n := 3) V4.out aw_v4 rfl (by decide) (by decide) (by decide) (by decide) aw_b4).mono ?_
  rw [aw_dense]
  rintro e w20 ⟨ax, rfl, hb, XA⟩
  clear V4
  replace TA := hid (TA.out.below hb)
  replace R11 := hid (R11.out.below hb)
  replace BD := hid (BD.out.below hb)
  replace HB := hid (HB.out.trans (hb.mono HB.out.size))
  clear hb
  go_wp2_with fail
  refine (vDense_c (k := 0) (z := 65) (v := []) (L := 4) (col := fun _ => 0) (T := fun _ => ⟨false, none, 0, 0, fun _ => 0, none, 0, 0, fun _ => 0⟩) (fun j hj => absurd hj (Nat.not_lt_zero j)) (by decide) (by decide) (by decide) (fun _ => ⟨rfl, Tf.nil _ _ _, Vr.vf (l := -1) (by decide) trivial⟩) rOf0_c).mono ?_
  rintro e w21 ⟨ay, ny, cy, er, rfl, hb, hod⟩
  obtain ⟨rfl, rfl, rfl, rfl⟩ : er = 1 ∧ ay = none ∧ ny = 0 ∧ cy = 0 := by
    rcases hod with ⟨_, h⟩ | ⟨_, h, _⟩ | ⟨_, h, _⟩ | ⟨_, h, _⟩
    · exact h
    · omega
    · omega
    · omega
  clear hod
  replace TA := hid (TA.out.below hb)
  replace R11 := hid (R11.out.below hb)
  replace BD := hid (BD.out.below hb)
  replace XA := hid (XA.out.below hb)
  replace HB := hid (HB.out.trans (hb.mono HB.out.size))
  clear hb
  obtain ⟨bz, b0, b1, b2⟩ := BD.out
  obtain ⟨bx, ox, ⟨s13, x13, n13, c13, f13, y13, m13, d13, g13⟩, rfl, hc13, hr13⟩ := XA.out 1 ((4 : Int) : Rat) rfl
  obtain ⟨e0, e1, e2⟩ := hc13
  replace e0 : w21.cell? ⟨bx, ox + 3, none⟩ = some (.bool s13) := e0
  replace e1 : w21.cell? ⟨bx, ox + 3 + 1, none⟩ = some (.slice x13 n13 c13) := e1
  replace e2 : w21.cell? ⟨bx, ox + 3 + 2, none⟩ = some (.slice y13 m13 d13) := e2
  have R13 : Hid (Rn 4 w21 s13 x13 n13 c13 f13 y13 m13 d13 g13 ((4 : Int) : Rat)) := hr13
  clear hr13 XA BD
  have N1 : Hid (∀ W : World, Calls Tryz.prog 37 #[.int .i64 0, .int .i64 (-5)] W fun e w' => ∃ s x n c f y m d g, e = .returned (.agg #[.int .i64 0, .bool s, .slice x n c, .slice y m d]) ∧ Below W.heap.size W w' ∧ Hid (Rn 4 w' s x n c f y m d g (((-5 : Int)) : Rat))) := fun W => term_c (by decide) (by decide)
  have N2 : Hid (∀ W : World, Calls Tryz.prog 37 #[.int .i64 1, .int .i64 (-3)] W fun e w' => ∃ s x n c f y m d g, e = .returned (.agg #[.int .i64 1, .bool s, .slice x n c, .slice y m d]) ∧ Below W.heap.size W w' ∧ Hid (Rn 4 w' s x n c f y m d g (((-3 : Int)) : Rat))) := fun W => term_c (by decide) (by decide)
  have N3 : Hid (∀ W : World, Calls Tryz.prog 37 #[.int .i64 2, .int .i64 3] W fun e w' => ∃ s x n c f y m d g, e = .returned (.agg #[.int .i64 2, .bool s, .slice x n c, .slice y m d]) ∧ Below W.heap.size W w' ∧ Hid (Rn 4 w' s x n c f y m d g (((3 : Int)) : Rat))) := fun W => term_c (by decide) (by decide)
  have N4 : Hid (∀ W : World, Calls Tryz.prog 37 #[.int .i64 0, .int .i64 0] W fun e w' => ∃ s x n c f y m d g, e = .returned (.agg #[.int .i64 0, .bool s, .slice x n c, .slice y m d]) ∧ Below W.heap.size W w' ∧ Hid (Rn 4 w' s x n c f y m d g (((0 : Int)) : Rat))) := fun W => term_c (by decide) (by decide)
  have D1 : Hid (∀ W : World, Calls Tryz.prog 40 #[.int .i64 17] W fun e w' => ∃ s x n c f y m d g, e = .returned (.agg #[.bool s, .slice x n c, .slice y m d]) ∧ Below W.heap.size W w' ∧ Hid (Rn 4 w' s x n c f y m d g (((17 : Int)) : Rat))) := fun W => docOfQ_c (by decide) (by decide)
  have D2 : Hid (∀ W : World, Calls Tryz.prog 40 #[.int .i64 4] W fun e w' => ∃ s x n c f y m d g, e = .returned (.agg #[.bool s, .slice x n c, .slice y m d]) ∧ Below W.heap.size W w' ∧ Hid (Rn 4 w' s x n c f y m d g (((4 : Int)) : Rat))) := fun W => docOfQ_c (by decide) (by decide)
  have SA : Hid (∀ (W : World) (B : Nat), Below w21.heap.size w21 W → Tf 4 W (some ⟨B, 0, none⟩) [((0 : Int), ((-5 : Int) : Rat)), ((1 : Int), ((-3 : Int) : Rat)), ((2 : Int), ((3 : Int) : Rat))] → Calls Tryz.prog 15 #[.slice ao 3 cao, .slice (some ⟨B, 0, none⟩) 3 3] W fun e w' => e = .returned (.bool true) ∧ Below W.heap.size W w') := fun W B hW hT => vSameEq_c (TA.out.below hW) hT rfl (by decide) (by decide) (by decide)
  have S1 : Hid (∀ (W : World) (s : Bool) (x : Option Addr) (n c : Nat) (f : Nat → Int) (y : Option Addr) (m d : Nat) (g : Nat → Int), Below w21.heap.size w21 W → Rn 4 W s x n c f y m d g (((17 : Int)) : Rat) → Calls Tryz.prog 22 #[.agg #[.bool s11, .slice x11 n11 c11, .slice y11 m11 d11], .agg #[.bool s, .slice x n c, .slice y m d]] W fun e w' => e = .returned (.bool true) ∧ Below W.heap.size W w') := fun W s x n c f y m d g hW hr => rSameEq_c (R11.out.below hW) hr (by decide) (by decide)
  have S2 : Hid (∀ (W : World) (s : Bool) (x : Option Addr) (n c : Nat) (f : Nat → Int) (y : Option Addr) (m d : Nat) (g : Nat → Int), Below w21.heap.size w21 W → Rn 4 W s x n c f y m d g (((4 : Int)) : Rat) → Calls Tryz.prog 22 #[.agg #[.bool s13, .slice x13 n13 c13, .slice y13 m13 d13], .agg #[.bool s, .slice x n c, .slice y m d]] W fun e w' => e = .returned (.bool true) ∧ Below W.heap.size W w') := fun W s x n c f y m d g hW hr => rSameEq_c (R13.out.below hW) hr (by decide) (by decide)
  have F1 : Hid (∀ (W : World) (B : Nat), Tf 4 W (some ⟨B, 0, none⟩) [((0 : Int), ((0 : Int) : Rat))] → Calls Tryz.prog 16 #[.slice (some ⟨B, 0, none⟩) 1 1] W fun e w' => e = .returned (.bool false) ∧ Below W.heap.size W w') := fun W B hT => vForm_zero hT
  clear TA R11 R13
  go_wp2
  go_region_held3 (fun w' => w'.cell? ⟨bd, 0, none⟩ = some (.bool s11) ∧ w'.cell? ⟨bd, 1, none⟩ = some (.slice x11 n11 c11) ∧ w'.cell? ⟨bd, 2, none⟩ = some (.slice y11 m11 d11) ∧ w'.cell? ⟨bx, ox + 3, none⟩ = some (.bool s13) ∧ w'.cell? ⟨bx, ox + 3 + 1, none⟩ = some (.slice x13 n13 c13) ∧ w'.cell? ⟨bx, ox + 3 + 2, none⟩ = some (.slice y13 m13 d13))
    (refine ⟨?_, ?_, ?_, ?_, ?_, ?_⟩ <;> repeat (with_reducible first | assumption | refine kCd ?_ | refine kCa ?_ | refine kCb (by assumption) ?_))
    (first
      | (go_at_call 37; with_reducible refine (N1.out _).mono ?_; rintro e v1 ⟨i1, i2, i3, i4, i5, i6, i7, i8, i9, rfl, hv1, HI⟩)
      | (go_at_call 37; with_reducible refine (N2.out _).mono ?_; rintro e v2 ⟨j1, j2, j3, j4, j5, j6, j7, j8, j9, rfl, hv2, HJ⟩)
      | (go_at_call 37; with_reducible refine (N3.out _).mono ?_; rintro e v3 ⟨k1, k2, k3, k4, k5, k6, k7, k8, k9, rfl, hv3, HK⟩; have HI3 : Rn 4 v3 i1 i2 i3 i4 i5 i6 i7 i8 i9 (((-5 : Int)) : Rat) := (by repeat (with_reducible first | exact HI.out | refine kRnd ?_ | refine kRnb (by assumption) ?_)); have HJ3 : Rn 4 v3 j1 j2 j3 j4 j5 j6 j7 j8 j9 (((-3 : Int)) : Rat) := (by repeat (with_reducible first | exact HJ.out | refine kRnd ?_ | refine kRnb (by assumption) ?_)))
      | (go_at_call 15; with_reducible refine (SA.out _ _ (by repeat (with_reducible first | assumption | exact Below.refl _ _ | refine kBdn ?_ | refine Below.drew ?_ | refine kBa ?_ | refine kBb (by assumption) ?_)) (by repeat (with_reducible first | exact tf_three HI3 HJ3 HK.out | refine kTfd ?_))).mono ?_; rintro e v4 ⟨rfl, hv4⟩)
      | (go_at_call 40; with_reducible refine (D1.out _).mono ?_; rintro e v5 ⟨l1, l2, l3, l4, l5, l6, l7, l8, l9, rfl, hv5, HL⟩)
      | (go_at_call 22; with_reducible refine (S1.out _ l1 l2 l3 l4 l5 l6 l7 l8 l9 (by repeat (with_reducible first | assumption | exact Below.refl _ _ | refine kBdn ?_ | refine Below.drew ?_ | refine kBa ?_ | refine kBb (by assumption) ?_)) (by repeat (with_reducible first | exact HL.out | refine kRnd ?_))).mono ?_; rintro e v6 ⟨rfl, hv6⟩)
      | (go_at_call 40; with_reducible refine (D2.out _).mono ?_; rintro e v7 ⟨o1, o2, o3, o4, o5, o6, o7, o8, o9, rfl, hv7, HO⟩)
      | (go_at_call 22; with_reducible refine (S2.out _ o1 o2 o3 o4 o5 o6 o7 o8 o9 (by repeat (with_reducible first | assumption | exact Below.refl _ _ | refine kBdn ?_ | refine Below.drew ?_ | refine kBa ?_ | refine kBb (by assumption) ?_)) (by repeat (with_reducible first | exact HO.out | refine kRnd ?_))).mono ?_; rintro e v8 ⟨rfl, hv8⟩)
      | (go_at_call 37; with_reducible refine (N4.out _).mono ?_; rintro e v9 ⟨p1, p2, p3, p4, p5, p6, p7, p8, p9, rfl, hv9, HP⟩)
      | (go_at_call 16; with_reducible refine (F1.out _ _ (by repeat (with_reducible first | exact tf_one HP.out | exact tf_one (kRnd HP.out) | refine kTfd ?_))).mono ?_; rintro e v10 ⟨rfl, hv10⟩))
  all_goals
    go_wp2
    go_ret
    exact ⟨rfl, HB.out.trans (Below.mono (by repeat (with_reducible first | assumption | exact Below.refl _ _ | refine kBdn ?_ | refine Below.drew ?_ | refine kBa ?_ | refine kBb (by assumption) ?_)) HB.out.size)⟩
end Go.Proofs.YthofcgpghbaccaaGreat
namespace Go.Proofs.YthofcgpghbaccaaGreat
open Go.RowKit

/-- All columns lie below z. -/
def Vb (z : Int) (v : List (Int × Rat)) : Prop := ∀ t ∈ v, t.1 < z
theorem Vb.get {z : Int} {v : List (Int × Rat)} (h : Vb z v) : ∀ (j : Nat) (a : Int) (q : Rat), v[j]? = some (a, q) → a < z := fun _ a q hj => h (a, q) (List.mem_of_getElem? hj)
theorem vb_of {z : Int} {v : List (Int × Rat)} (h : ∀ (j : Nat) (a : Int) (q : Rat), v[j]? = some (a, q) → a < z) : Vb z v := fun t ht => by
  obtain ⟨j, hj⟩ := List.getElem?_of_mem ht
  exact h j t.1 t.2 hj
theorem vb_nz {z a : Int} {q : Rat} {v : List (Int × Rat)} (ha : a < z) (h : Vb z v) : Vb z (nz a q ++ v) := fun t ht => by
  rcases List.mem_append.1 ht with h1 | h1
  · unfold nz at h1
    split at h1
    · cases h1
    · rw [List.mem_singleton] at h1; subst h1; exact ha
  · exact h t h1
theorem Vb.tail {z : Int} {t : Int × Rat} {v : List (Int × Rat)} (h : Vb z (t :: v)) : Vb z v := fun u hu => h u (List.mem_cons_of_mem _ hu)
theorem Vb.head {z a : Int} {q : Rat} {v : List (Int × Rat)} (h : Vb z ((a, q) :: v)) : a < z := h (a, q) (List.mem_cons_self)
theorem mg_vb (r : Rat) (z : Int) : ∀ (n : Nat) (v w : List (Int × Rat)), v.length + w.length ≤ n → Vb z v → Vb z w → Vb z (mg r v w) := by
  intro n
  induction n with
  | zero =>
    intro v w hn _ _
    obtain rfl : v = [] := List.eq_nil_of_length_eq_zero (by omega)
    obtain rfl : w = [] := List.eq_nil_of_length_eq_zero (by omega)
    rw [mg_nn]; intro t ht; cases ht
  | succ n ih =>
    intro v w hn hv hw
    match v, w with
    | [], [] => rw [mg_nn]; intro t ht; cases ht
    | (a, q) :: v, [] => rw [mg_cn]; exact vb_nz hv.head (ih v [] (by simp at hn ⊢; omega) hv.tail hw)
    | [], (b, p) :: w => rw [mg_nc]; exact vb_nz hw.head (ih [] w (by simp at hn ⊢; omega) hv hw.tail)
    | (a, q) :: v, (b, p) :: w =>
      simp only [List.length_cons] at hn
      by_cases h1 : a < b
      · rw [mg_lt _ _ _ _ _ _ _ h1]; exact vb_nz hv.head (ih v ((b, p) :: w) (by simp only [List.length_cons]; omega) hv.tail hw)
      · by_cases h2 : b < a
        · rw [mg_gt _ _ _ _ _ _ _ h2]; exact vb_nz hw.head (ih ((a, q) :: v) w (by simp only [List.length_cons]; omega) hv hw.tail)
        · obtain rfl : a = b := by omega
          rw [mg_eq]; exact vb_nz hv.head (ih v w (by omega) hv.tail hw.tail)
theorem spr_vb : ∀ (p : List Rat) (i : Nat), Vb ((i + p.length : Nat) : Int) (spr p i) := by
  intro p
  induction p with
  | nil => intro i t ht; cases ht
  | cons q p ih =>
    intro i
    have h := ih (i + 1)
    rw [show i + 1 + p.length = i + (q :: p).length by simp only [List.length_cons]; omega] at h
    exact vb_nz (by simp only [List.length_cons]; omega) h
theorem vr_len {z : Int} : ∀ {v : List (Int × Rat)} {l : Int}, Vr l v → Vb z v → l < z → l + v.length < z := by
  intro v
  induction v with
  | nil => intro l _ _ h; simpa using h
  | cons t v ih =>
    intro l h hb _
    obtain ⟨a, q⟩ := t
    have h1 := h.1
    have h2 := ih h.2.2 hb.tail hb.head
    simp only [List.length_cons]; omega
theorem vf_len_le {n : Nat} {v : List (Int × Rat)} (h : Vf v) (hb : Vb (n : Int) v) : v.length ≤ n := by
  have := vr_len h.vr hb (by omega)
  omega
theorem lo_zero {L : Nat} (hL : 1 ≤ L) : Lo L 0 := by
  have h := pw_mono hL
  have h1 : pw 1 = 18446744073709551616 := by decide
  constructor
  · show ((0 : Nat) : Int) < _; omega
  · show ((1 : Nat) : Int) < _; omega
theorem lo_dsum {L : Nat} {p : List Rat} (hL : 1 ≤ L) (hp : ∀ (j : Nat) (q : Rat), p[j]? = some q → Lo L q) : ∀ (v : List (Int × Rat)) (K : Nat) (acc : Rat), (∀ (j : Nat) (a : Int) (q : Rat), v[j]? = some (a, q) → Lo L q) → Lo K acc → Lo (K + v.length * (2 * L + 2)) (dsum p v acc) := by
  intro v
  induction v with
  | nil => intro K acc _ h; simpa [dsum] using h
  | cons t v ih =>
    intro K acc hv h
    obtain ⟨a, q⟩ := t
    have h1 : Lo L (p.getD a.toNat 0) := by
      rw [List.getD_eq_getElem?_getD]
      cases e : p[a.toNat]? with
      | none => exact lo_zero hL
      | some x => exact hp _ x e
    have h2 := lo_add h (lo_mul (hv 0 a q rfl) h1)
    have h3 := ih (K + (L + L + 1) + 1) _ (fun j b x hj => hv (j + 1) b x (by simpa using hj)) h2
    refine Lo.mono h3 ?_
    simp only [List.length_cons, Nat.add_mul]; omega
theorem Tf.lo {L w ao} {v : List (Int × Rat)} (h : Tf L w ao v) : ∀ (j : Nat) (a : Int) (q : Rat), v[j]? = some (a, q) → Lo L q := fun j a q hj => by
  obtain ⟨_, _, _, _, _, h2⟩ := h j a q hj
  exact h2.lo h2.ln h2.ld
theorem Rf.lo {L w ao} {p : List Rat} (h : Rf L w ao p) : ∀ (j : Nat) (q : Rat), p[j]? = some q → Lo L q := fun j q hj => by
  obtain ⟨_, _, _, _, _, h2⟩ := h j q hj
  exact h2.lo h2.ln h2.ld
/-- Dot of lists in form, and how long its answer is. -/
theorem vDot_w {w : World} {L : Nat} {av ax : Option Addr} {k kx cv cx : Nat} {v : List (Int × Rat)} {p : List Rat}
    (hv : Tf L w av v) (vv : Vf v) (hx : Rf L w ax p) (hk : v.length = k) (hkx : p.length = kx) (hkx2 : kx ≤ 64) (hL : L ≤ 200) (hL1 : 1 ≤ L) (hbel : Vb (kx : Int) v) :
    Calls Tryz.prog 27 #[.slice av k cv, .slice ax kx cx] w fun e w' => RatTup (4 + 64 * (2 * L + 2)) w w' e (dsum p v 0) := by
  have hk2 : v.length ≤ 64 := Nat.le_trans (vf_len_le vv hbel) hkx2
  refine (vDot_v hv vv hx hk hkx (by omega) hkx2 hL hbel.get).mono ?_
  rintro e w' ⟨s, x, n, c, f, y, m, d, g, rfl, hb, hr⟩
  refine ⟨s, x, n, c, f, y, m, d, g, rfl, hb, hr.cut ?_⟩
  refine Lo.mono (lo_dsum hL1 hx.lo v 4 0 hv.lo (lo_zero (by decide))) ?_
  have : v.length * (2 * L + 2) ≤ 64 * (2 * L + 2) := Nat.mul_le_mul_right _ hk2
  omega
/-- What Dot answers, whatever it is handed. -/
def OT (kx : Nat) (fv fx fb : Bool) (L : Nat) (w' : World) (s : Bool) (x : Option Addr) (n c : Nat) (y : Option Addr) (m d : Nat) (er : Int) (q : Rat) : Prop :=
  ((64 < kx ∨ (fv && fx && fb) = false) ∧ DE kx fv fx fb er ∧ s = false ∧ x = none ∧ n = 0 ∧ c = 0 ∧ y = none ∧ m = 0 ∧ d = 0) ∨ (kx ≤ 64 ∧ fv = true ∧ fx = true ∧ fb = true ∧ er = 0 ∧ ∃ f g, Rn L w' s x n c f y m d g q)
theorem vDot_o {w : World} {L : Nat} {av ax : Option Addr} {k kx cv cx : Nat} {col : Nat → Int} {T X : Nat → Nm} {v : List (Int × Rat)} {p : List Rat}
    (hv : Tl w av k col T) (hx : Rl w ax kx X) (hk : k ≤ 1048576) (hkx : kx ≤ 1048576) (hL : L ≤ 200) (hL1 : 1 ≤ L) (fv : tfB k col T = true → v.length = k ∧ Tf L w av v ∧ Vf v) (fx : afB kx X = true → p.length = kx ∧ Rf L w ax p) :
    Calls Tryz.prog 27 #[.slice av k cv, .slice ax kx cx] w fun e w' => ∃ s x n c y m d er, e = .returned (.tuple #[.agg #[.bool s, .slice x n c, .slice y m d], .int .i64 er]) ∧ Below w.heap.size w w' ∧ OT kx (tfB k col T) (afB kx X) (decide (k = 0) || decide (col (k - 1) < (kx : Int))) (4 + 64 * (2 * L + 2)) w' s x n c y m d er (dsum p v 0) := by
  by_cases h : 64 < kx ∨ (tfB k col T && afB kx X && (decide (k = 0) || decide (col (k - 1) < (kx : Int)))) = false
  · refine (vDotErr_c hv hx hk hkx h).mono ?_
    rintro e w' ⟨er, rfl, hb, hd⟩
    exact ⟨false, none, 0, 0, none, 0, 0, er, rfl, hb, .inl ⟨h, hd, rfl, rfl, rfl, rfl, rfl, rfl, rfl⟩⟩
  · have h1 : kx ≤ 64 := by
      by_cases e : 64 < kx
      · exact absurd (.inl e) h
      · omega
    have h2 : (tfB k col T && afB kx X && (decide (k = 0) || decide (col (k - 1) < (kx : Int)))) = true := by
      cases e : (tfB k col T && afB kx X && (decide (k = 0) || decide (col (k - 1) < (kx : Int))))
      · exact absurd (.inr e) h
      · rfl
    rw [Bool.and_eq_true, Bool.and_eq_true] at h2
    obtain ⟨lv, tv, vv⟩ := fv h2.1.1
    obtain ⟨lp, tx⟩ := fx h2.1.2
    refine (vDot_w tv vv tx lv lp h1 hL hL1 (vb_of (fun j a q e => (bel_of hv tv lv vv h2.2 j a q e).2))).mono ?_
    rintro e w' ⟨s, x, n, c, f, y, m, d, g, rfl, hb, hr⟩
    exact ⟨s, x, n, c, y, m, d, 0, rfl, hb, .inr ⟨h1, h2.1.1, h2.1.2, h2.2, rfl, f, g, hr⟩⟩
end Go.Proofs.YthofcgpghbaccaaGreat

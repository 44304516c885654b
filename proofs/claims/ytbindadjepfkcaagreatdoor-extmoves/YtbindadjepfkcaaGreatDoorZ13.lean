/-
  Walks of the document's reference for ext: Neg, Shift, Scale, DocOf, DocNeg, DocShift, DocScale, whatever they are handed. The walk of ExtMoves.
-/
import Derived.Test.YtbindadjepfkcaaGreatDoorZ12
import Derived.Test.YtbindadjepfkcaaGreatDoorZ11
namespace Go.Proofs.YtbindadjepfkcaaGreatDoor
open Go.RowKit

theorem inf_neg {i : Int} {q : Rat} (h : i = 0 ∨ (i = -1 ∨ i = 1) ∧ q = 0) : -i = 0 ∨ (-i = -1 ∨ -i = 1) ∧ -q = 0 := by
  rcases h with h | ⟨h, k⟩
  · left; omega
  · right; exact ⟨by omega, by rw [k]; exact Rat.neg_zero⟩

set_option maxRecDepth 100000 in
set_option maxHeartbeats 4000000 in
theorem xNegM_c {w : World} {s : Bool} {x : Option Addr} {n c : Nat} {f : Nat → Int} {y : Option Addr} {m d : Nat} {g : Nat → Int} {q : Rat} (h : Fn w (-1) s x n f y m g q) (hn : n ≤ 4096) :
    Calls Tryz.prog 63 #[.agg #[.int .i64 (-1), .bool s, .slice x n c, .slice y m d]] w fun e w' => ∃ s' c', e = .returned (.agg #[.int .i64 1, .bool s', .slice x n c', .slice y m d]) ∧ Below w.heap.size w w' ∧ Hid (Fn w' 1 s' x n f y m g (-q)) := by
  have h1 := (bx4_at w (.int .i64 (-1)) (.bool s) (.slice x n c) (.slice y m d) 72).alloc (.cells #[.int .i64 0, .bool false, .slice none 0 0, .slice none 0 0] 72)
  have h2 := ob4_new (w.alloc (.cells #[.int .i64 (-1), .bool s, .slice x n c, .slice y m d] 72)) 72
  rw [size_alloc1] at h2
  have h3 := below_alloc (below_alloc (Below.refl w.heap.size w) (.cells #[.int .i64 (-1), .bool s, .slice x n c, .slice y m d] 72)) (.cells #[.int .i64 0, .bool false, .slice none 0 0, .slice none 0 0] 72)
  have h4 := h.below h3
  clear h
  go_enter Tryz.func63, Tryz.ntmps63
  go_wp2_with fail
  generalize (w.alloc (.cells #[.int .i64 (-1), .bool s, .slice x n c, .slice y m d] 72)).alloc (.cells #[.int .i64 0, .bool false, .slice none 0 0, .slice none 0 0] 72) = w1 at *
  have HN := hid h4; have OB := hid h2; have HW := hid h3
  obtain ⟨z, x0, x1, x2, x3⟩ := h1
  obtain ⟨hz, z0, z1, z2, z3, zf⟩ := h2
  clear h3 h4
  have C1 : Hid (∀ W, Below w1.heap.size w1 W → Calls Tryz.prog 91 #[.agg #[.bool s, .slice x n c, .slice y m d]] W fun e w' => ∃ s' c', e = .returned (.agg #[.bool s', .slice x n c', .slice y m d]) ∧ Below W.heap.size W w' ∧ Hid (Qn w' s' x n f y m g (-q))) := fun W hW => qNeg_c (HN.out.below hW).qn hn
  go_region_held3 (fun w' => w'.cell? ⟨w.heap.size, 0, none⟩ = some (.int .i64 (-1)) ∧ w'.cell? ⟨w.heap.size, 1, none⟩ = some (.bool s) ∧ w'.cell? ⟨w.heap.size, 2, none⟩ = some (.slice x n c) ∧ w'.cell? ⟨w.heap.size, 3, none⟩ = some (.slice y m d) ∧ (w'.cell? ⟨w.heap.size + 1, 0, none⟩).isSome = true ∧ (w'.cell? ⟨w.heap.size + 1, 1, none⟩).isSome = true ∧ (w'.cell? ⟨w.heap.size + 1, 2, none⟩).isSome = true ∧ (w'.cell? ⟨w.heap.size + 1, 3, none⟩).isSome = true ∧ w'.frozen? ⟨w.heap.size + 1, 0, none⟩ = false ∧ w'.frozen? ⟨w.heap.size + 1, 1, none⟩ = false ∧ w'.frozen? ⟨w.heap.size + 1, 2, none⟩ = false ∧ w'.frozen? ⟨w.heap.size + 1, 3, none⟩ = false)
    (refine ⟨?_, ?_, ?_, ?_, ?_, ?_, ?_, ?_, ?_, ?_, ?_, ?_⟩ <;> repeat (with_reducible first | assumption | exact zf _ | exact tf _ | exact kI0 z0 | exact kI0 z1 | exact kI0 z2 | exact kI0 z3 | exact kI0 t0 | exact kI0 t1 | exact kI0 t2 | exact kI0 t3 | refine kCd ?_ | refine kId ?_ | refine kFd ?_ | refine kCs (by simp only [ne_eq]; omega) ?_ | refine kIs ?_ | refine kFs ?_ | refine kCb (by assumption) ?_ | refine kIb (by assumption) ?_))
    (first | (go_at_call 91; with_reducible refine (C1.out _ (by repeat (with_reducible first | assumption | exact Below.refl _ _ | refine Below.drew ?_ | refine kBb (by assumption) ?_))).mono ?_; rintro e v5 ⟨s5, c5, rfl, hb5, H5⟩; have Tt : Ob4 v5 (w.heap.size + 1) := (by repeat (with_reducible first | exact OB.out | refine Ob4.drew ?_ | refine kO4b (by assumption) ?_)); obtain ⟨_, t0, t1, t2, t3, tf⟩ := id Tt))
  all_goals
    have hb : Below w1.heap.size w1 v5 := (by repeat (with_reducible first | assumption | exact Below.refl _ _ | refine Below.drew ?_ | refine kBb (by assumption) ?_))
    go_wp2
    exact bodyPost_ret (v := .agg #[.int .i64 1, .bool s5, .slice x n c5, .slice y m d]) (by simp [results, Tryz.results63, go_sem, t0, t1, t2, t3] <;> decide) rfl ⟨s5, c5, rfl, below_st4 (HW.out.trans (hb.mono HW.out.size)) (by omega), ⟨Tt.qn H5.out, inf_neg HN.out.inf⟩⟩

set_option maxRecDepth 100000 in
set_option maxHeartbeats 4000000 in
theorem xNegZ_c {w : World} {s : Bool} {x : Option Addr} {n c : Nat} {f : Nat → Int} {y : Option Addr} {m d : Nat} {g : Nat → Int} {q : Rat} (h : Fn w 0 s x n f y m g q) (hn : n ≤ 4096) :
    Calls Tryz.prog 63 #[.agg #[.int .i64 0, .bool s, .slice x n c, .slice y m d]] w fun e w' => ∃ s' c', e = .returned (.agg #[.int .i64 0, .bool s', .slice x n c', .slice y m d]) ∧ Below w.heap.size w w' ∧ Hid (Fn w' 0 s' x n f y m g (-q)) := by
  have h1 := (bx4_at w (.int .i64 0) (.bool s) (.slice x n c) (.slice y m d) 72).alloc (.cells #[.int .i64 0, .bool false, .slice none 0 0, .slice none 0 0] 72)
  have h2 := ob4_new (w.alloc (.cells #[.int .i64 0, .bool s, .slice x n c, .slice y m d] 72)) 72
  rw [size_alloc1] at h2
  have h3 := below_alloc (below_alloc (Below.refl w.heap.size w) (.cells #[.int .i64 0, .bool s, .slice x n c, .slice y m d] 72)) (.cells #[.int .i64 0, .bool false, .slice none 0 0, .slice none 0 0] 72)
  have h4 := h.below h3
  clear h
  go_enter Tryz.func63, Tryz.ntmps63
  go_wp2_with fail
  generalize (w.alloc (.cells #[.int .i64 0, .bool s, .slice x n c, .slice y m d] 72)).alloc (.cells #[.int .i64 0, .bool false, .slice none 0 0, .slice none 0 0] 72) = w1 at *
  have HN := hid h4; have OB := hid h2; have HW := hid h3
  obtain ⟨z, x0, x1, x2, x3⟩ := h1
  obtain ⟨hz, z0, z1, z2, z3, zf⟩ := h2
  clear h3 h4
  have C1 : Hid (∀ W, Below w1.heap.size w1 W → Calls Tryz.prog 91 #[.agg #[.bool s, .slice x n c, .slice y m d]] W fun e w' => ∃ s' c', e = .returned (.agg #[.bool s', .slice x n c', .slice y m d]) ∧ Below W.heap.size W w' ∧ Hid (Qn w' s' x n f y m g (-q))) := fun W hW => qNeg_c (HN.out.below hW).qn hn
  go_region_held3 (fun w' => w'.cell? ⟨w.heap.size, 0, none⟩ = some (.int .i64 0) ∧ w'.cell? ⟨w.heap.size, 1, none⟩ = some (.bool s) ∧ w'.cell? ⟨w.heap.size, 2, none⟩ = some (.slice x n c) ∧ w'.cell? ⟨w.heap.size, 3, none⟩ = some (.slice y m d) ∧ (w'.cell? ⟨w.heap.size + 1, 0, none⟩).isSome = true ∧ (w'.cell? ⟨w.heap.size + 1, 1, none⟩).isSome = true ∧ (w'.cell? ⟨w.heap.size + 1, 2, none⟩).isSome = true ∧ (w'.cell? ⟨w.heap.size + 1, 3, none⟩).isSome = true ∧ w'.frozen? ⟨w.heap.size + 1, 0, none⟩ = false ∧ w'.frozen? ⟨w.heap.size + 1, 1, none⟩ = false ∧ w'.frozen? ⟨w.heap.size + 1, 2, none⟩ = false ∧ w'.frozen? ⟨w.heap.size + 1, 3, none⟩ = false)
    (refine ⟨?_, ?_, ?_, ?_, ?_, ?_, ?_, ?_, ?_, ?_, ?_, ?_⟩ <;> repeat (with_reducible first | assumption | exact zf _ | exact tf _ | exact kI0 z0 | exact kI0 z1 | exact kI0 z2 | exact kI0 z3 | exact kI0 t0 | exact kI0 t1 | exact kI0 t2 | exact kI0 t3 | refine kCd ?_ | refine kId ?_ | refine kFd ?_ | refine kCs (by simp only [ne_eq]; omega) ?_ | refine kIs ?_ | refine kFs ?_ | refine kCb (by assumption) ?_ | refine kIb (by assumption) ?_))
    (first | (go_at_call 91; with_reducible refine (C1.out _ (by repeat (with_reducible first | assumption | exact Below.refl _ _ | refine Below.drew ?_ | refine kBb (by assumption) ?_))).mono ?_; rintro e v5 ⟨s5, c5, rfl, hb5, H5⟩; have Tt : Ob4 v5 (w.heap.size + 1) := (by repeat (with_reducible first | exact OB.out | refine Ob4.drew ?_ | refine kO4b (by assumption) ?_)); obtain ⟨_, t0, t1, t2, t3, tf⟩ := id Tt))
  all_goals
    have hb : Below w1.heap.size w1 v5 := (by repeat (with_reducible first | assumption | exact Below.refl _ _ | refine Below.drew ?_ | refine kBb (by assumption) ?_))
    go_wp2
    exact bodyPost_ret (v := .agg #[.int .i64 0, .bool s5, .slice x n c5, .slice y m d]) (by simp [results, Tryz.results63, go_sem, t0, t1, t2, t3] <;> decide) rfl ⟨s5, c5, rfl, below_st4 (HW.out.trans (hb.mono HW.out.size)) (by omega), ⟨Tt.qn H5.out, inf_neg HN.out.inf⟩⟩

set_option maxRecDepth 100000 in
set_option maxHeartbeats 4000000 in
theorem xNegP_c {w : World} {s : Bool} {x : Option Addr} {n c : Nat} {f : Nat → Int} {y : Option Addr} {m d : Nat} {g : Nat → Int} {q : Rat} (h : Fn w 1 s x n f y m g q) (hn : n ≤ 4096) :
    Calls Tryz.prog 63 #[.agg #[.int .i64 1, .bool s, .slice x n c, .slice y m d]] w fun e w' => ∃ s' c', e = .returned (.agg #[.int .i64 (-1), .bool s', .slice x n c', .slice y m d]) ∧ Below w.heap.size w w' ∧ Hid (Fn w' (-1) s' x n f y m g (-q)) := by
  have h1 := (bx4_at w (.int .i64 1) (.bool s) (.slice x n c) (.slice y m d) 72).alloc (.cells #[.int .i64 0, .bool false, .slice none 0 0, .slice none 0 0] 72)
  have h2 := ob4_new (w.alloc (.cells #[.int .i64 1, .bool s, .slice x n c, .slice y m d] 72)) 72
  rw [size_alloc1] at h2
  have h3 := below_alloc (below_alloc (Below.refl w.heap.size w) (.cells #[.int .i64 1, .bool s, .slice x n c, .slice y m d] 72)) (.cells #[.int .i64 0, .bool false, .slice none 0 0, .slice none 0 0] 72)
  have h4 := h.below h3
  clear h
  go_enter Tryz.func63, Tryz.ntmps63
  go_wp2_with fail
  generalize (w.alloc (.cells #[.int .i64 1, .bool s, .slice x n c, .slice y m d] 72)).alloc (.cells #[.int .i64 0, .bool false, .slice none 0 0, .slice none 0 0] 72) = w1 at *
  have HN := hid h4; have OB := hid h2; have HW := hid h3
  obtain ⟨z, x0, x1, x2, x3⟩ := h1
  obtain ⟨hz, z0, z1, z2, z3, zf⟩ := h2
  clear h3 h4
  have C1 : Hid (∀ W, Below w1.heap.size w1 W → Calls Tryz.prog 91 #[.agg #[.bool s, .slice x n c, .slice y m d]] W fun e w' => ∃ s' c', e = .returned (.agg #[.bool s', .slice x n c', .slice y m d]) ∧ Below W.heap.size W w' ∧ Hid (Qn w' s' x n f y m g (-q))) := fun W hW => qNeg_c (HN.out.below hW).qn hn
  go_region_held3 (fun w' => w'.cell? ⟨w.heap.size, 0, none⟩ = some (.int .i64 1) ∧ w'.cell? ⟨w.heap.size, 1, none⟩ = some (.bool s) ∧ w'.cell? ⟨w.heap.size, 2, none⟩ = some (.slice x n c) ∧ w'.cell? ⟨w.heap.size, 3, none⟩ = some (.slice y m d) ∧ (w'.cell? ⟨w.heap.size + 1, 0, none⟩).isSome = true ∧ (w'.cell? ⟨w.heap.size + 1, 1, none⟩).isSome = true ∧ (w'.cell? ⟨w.heap.size + 1, 2, none⟩).isSome = true ∧ (w'.cell? ⟨w.heap.size + 1, 3, none⟩).isSome = true ∧ w'.frozen? ⟨w.heap.size + 1, 0, none⟩ = false ∧ w'.frozen? ⟨w.heap.size + 1, 1, none⟩ = false ∧ w'.frozen? ⟨w.heap.size + 1, 2, none⟩ = false ∧ w'.frozen? ⟨w.heap.size + 1, 3, none⟩ = false)
    (refine ⟨?_, ?_, ?_, ?_, ?_, ?_, ?_, ?_, ?_, ?_, ?_, ?_⟩ <;> repeat (with_reducible first | assumption | exact zf _ | exact tf _ | exact kI0 z0 | exact kI0 z1 | exact kI0 z2 | exact kI0 z3 | exact kI0 t0 | exact kI0 t1 | exact kI0 t2 | exact kI0 t3 | refine kCd ?_ | refine kId ?_ | refine kFd ?_ | refine kCs (by simp only [ne_eq]; omega) ?_ | refine kIs ?_ | refine kFs ?_ | refine kCb (by assumption) ?_ | refine kIb (by assumption) ?_))
    (first | (go_at_call 91; with_reducible refine (C1.out _ (by repeat (with_reducible first | assumption | exact Below.refl _ _ | refine Below.drew ?_ | refine kBb (by assumption) ?_))).mono ?_; rintro e v5 ⟨s5, c5, rfl, hb5, H5⟩; have Tt : Ob4 v5 (w.heap.size + 1) := (by repeat (with_reducible first | exact OB.out | refine Ob4.drew ?_ | refine kO4b (by assumption) ?_)); obtain ⟨_, t0, t1, t2, t3, tf⟩ := id Tt))
  all_goals
    have hb : Below w1.heap.size w1 v5 := (by repeat (with_reducible first | assumption | exact Below.refl _ _ | refine Below.drew ?_ | refine kBb (by assumption) ?_))
    go_wp2
    exact bodyPost_ret (v := .agg #[.int .i64 (-1), .bool s5, .slice x n c5, .slice y m d]) (by simp [results, Tryz.results63, go_sem, t0, t1, t2, t3] <;> decide) rfl ⟨s5, c5, rfl, below_st4 (HW.out.trans (hb.mono HW.out.size)) (by omega), ⟨Tt.qn H5.out, inf_neg HN.out.inf⟩⟩

theorem xNeg_c {w : World} {i : Int} {s : Bool} {x : Option Addr} {n c : Nat} {f : Nat → Int} {y : Option Addr} {m d : Nat} {g : Nat → Int} {q : Rat} (h : Fn w i s x n f y m g q) (hn : n ≤ 4096) : Calls Tryz.prog 63 #[.agg #[.int .i64 i, .bool s, .slice x n c, .slice y m d]] w fun e w' => ∃ s' c', e = .returned (.agg #[.int .i64 (-i), .bool s', .slice x n c', .slice y m d]) ∧ Below w.heap.size w w' ∧ Hid (Fn w' (-i) s' x n f y m g (-q)) := by
  rcases h.inf with rfl | ⟨rfl | rfl, _⟩
  · exact xNegZ_c h hn
  · exact xNegM_c h hn
  · exact xNegP_c h hn
def XRes (K : Nat) (P : Int → Rat → Prop) (w w' : World) (e : Ending) : Prop := ∃ i s x n c d y m c' g q, e = .returned (.agg #[.int .i64 i, .bool s, .slice x n c, .slice y m c']) ∧ Below w.heap.size w w' ∧ Hid (n ≤ K ∧ m ≤ K ∧ Fn w' i s x n d y m g q ∧ P i q)

set_option maxRecDepth 100000 in
set_option maxHeartbeats 4000000 in
theorem xShift_c {w : World} {i : Int} {s : Bool} {x : Option Addr} {n c : Nat} {f : Nat → Int} {y : Option Addr} {m d : Nat} {g : Nat → Int} {s2 : Bool} {x2 : Option Addr} {n2 c2 : Nat} {f2 : Nat → Int} {y2 : Option Addr} {m2 d2 : Nat} {g2 : Nat → Int} {q r : Rat} (h1 : Fn w i s x n f y m g q) (h2 : Qn w s2 x2 n2 f2 y2 m2 g2 r) (hn : n ≤ 200) (hm : m ≤ 200) (hn2 : n2 ≤ 200) (hm2 : m2 ≤ 200) :
    Calls Tryz.prog 65 #[.agg #[.int .i64 i, .bool s, .slice x n c, .slice y m d], .agg #[.bool s2, .slice x2 n2 c2, .slice y2 m2 d2]] w fun e w' => XRes 900 (PShift i q r) w w' e := by
  have k1 := ((bx4_at w (.int .i64 i) (.bool s) (.slice x n c) (.slice y m d) 72).alloc (.cells #[.bool s2, .slice x2 n2 c2, .slice y2 m2 d2] 70)).alloc (.cells #[.int .i64 0, .bool false, .slice none 0 0, .slice none 0 0] 72)
  have k2 := (bx3_at (w.alloc (.cells #[.int .i64 i, .bool s, .slice x n c, .slice y m d] 72)) (.bool s2) (.slice x2 n2 c2) (.slice y2 m2 d2) 70).alloc (.cells #[.int .i64 0, .bool false, .slice none 0 0, .slice none 0 0] 72)
  rw [size_alloc1] at k2
  have k5 := ob4_new ((w.alloc (.cells #[.int .i64 i, .bool s, .slice x n c, .slice y m d] 72)).alloc (.cells #[.bool s2, .slice x2 n2 c2, .slice y2 m2 d2] 70)) 72
  rw [size_alloc1, size_alloc1] at k5
  have k3 := below_alloc (below_alloc (below_alloc (Below.refl w.heap.size w) (.cells #[.int .i64 i, .bool s, .slice x n c, .slice y m d] 72)) (.cells #[.bool s2, .slice x2 n2 c2, .slice y2 m2 d2] 70)) (.cells #[.int .i64 0, .bool false, .slice none 0 0, .slice none 0 0] 72)
  have HF := hid (h1.below k3); have HQ := hid (h2.below k3)
  clear h1 h2
  by_cases hi : i = 0
  · subst hi
    go_enter Tryz.func65, Tryz.ntmps65
    go_upto_region 1 with fail
    generalize ((w.alloc _).alloc (.cells #[.bool s2, .slice x2 n2 c2, .slice y2 m2 d2] 70)).alloc (.cells #[.int .i64 0, .bool false, .slice none 0 0, .slice none 0 0] 72) = w1 at *
    have HW := hid k3; have OB := hid k5
    obtain ⟨za, a0, a1, a2, a3⟩ := k1
    obtain ⟨zb, b0, b1, b2⟩ := k2
    clear k3 k5
    go_wp2_with fail
    refine (qAdd_c HF.out.qn HQ.out (by omega) (by omega) (by omega) (by omega)).mono ?_
    rintro e w2 ⟨s4, x4, n4, c4, d4, y4, m4, e4, g4, rfl, hb, l1, l2, hq⟩
    have HB := hid (HW.out.trans (hb.mono HW.out.size)); have OB2 := hid (OB.out.below hb); have Q2 := hid hq
    clear hb hq za a0 a1 a2 a3 zb b0 b1 b2
    obtain ⟨hz, z0, z1, z2, z3, zf⟩ := OB2.out
    go_wp2
    exact bodyPost_ret (v := .agg #[.int .i64 0, .bool s4, .slice x4 n4 c4, .slice y4 m4 e4]) (by simp [results, Tryz.results65, go_sem, z0, z1, z2, z3]) rfl ⟨0, s4, x4, n4, c4, d4, y4, m4, e4, g4, q + r, rfl, below_st4 HB.out (by omega), by omega, by omega, ⟨OB2.out.qn Q2.out, .inl rfl⟩, .inr ⟨rfl, rfl, rfl⟩⟩
  · have hne : (i != 0) = true := by simp; exact hi
    have HI := hid hi
    clear hi
    go_enter Tryz.func65, Tryz.ntmps65
    go_upto_region 1 with fail
    generalize ((w.alloc (.cells #[.int .i64 i, .bool s, .slice x n c, .slice y m d] 72)).alloc (.cells #[.bool s2, .slice x2 n2 c2, .slice y2 m2 d2] 70)).alloc (.cells #[.int .i64 0, .bool false, .slice none 0 0, .slice none 0 0] 72) = w1 at *
    have HW := hid k3; have OB := hid k5
    obtain ⟨za, a0, a1, a2, a3⟩ := k1
    obtain ⟨hz, z0, z1, z2, z3, zf⟩ := k5
    clear k2 k3
    go_wp2
    exact bodyPost_ret (v := .agg #[.int .i64 i, .bool s, .slice x n c, .slice y m d]) (by simp [results, Tryz.results65, go_sem, z0, z1, z2, z3]) rfl ⟨i, s, x, n, c, f, y, m, d, g, q, rfl, below_st4 HW.out (by omega), by omega, by omega, ⟨OB.out.qn HF.out.qn, HF.out.inf⟩, .inl ⟨by have := HI.out; omega, rfl, rfl⟩⟩

set_option maxRecDepth 100000 in
set_option maxHeartbeats 4000000 in
theorem xScale_c {w : World} {i : Int} {s : Bool} {x : Option Addr} {n c : Nat} {f : Nat → Int} {y : Option Addr} {m d : Nat} {g : Nat → Int} {s2 : Bool} {x2 : Option Addr} {n2 c2 : Nat} {f2 : Nat → Int} {y2 : Option Addr} {m2 d2 : Nat} {g2 : Nat → Int} {q r : Rat} (h1 : Fn w i s x n f y m g q) (h2 : Qn w s2 x2 n2 f2 y2 m2 g2 r) (hr : r.num ≠ 0) (hn : n ≤ 200) (hm : m ≤ 200) (hn2 : n2 ≤ 200) (hm2 : m2 ≤ 200) :
    Calls Tryz.prog 67 #[.agg #[.int .i64 i, .bool s, .slice x n c, .slice y m d], .agg #[.bool s2, .slice x2 n2 c2, .slice y2 m2 d2]] w fun e w' => XRes 900 (PScale i q r s2) w w' e := by
  have k1 := ((bx4_at w (.int .i64 i) (.bool s) (.slice x n c) (.slice y m d) 72).alloc (.cells #[.bool s2, .slice x2 n2 c2, .slice y2 m2 d2] 70)).alloc (.cells #[.int .i64 0, .bool false, .slice none 0 0, .slice none 0 0] 72)
  have k2 := (bx3_at (w.alloc (.cells #[.int .i64 i, .bool s, .slice x n c, .slice y m d] 72)) (.bool s2) (.slice x2 n2 c2) (.slice y2 m2 d2) 70).alloc (.cells #[.int .i64 0, .bool false, .slice none 0 0, .slice none 0 0] 72)
  rw [size_alloc1] at k2
  have k5 := ob4_new ((w.alloc (.cells #[.int .i64 i, .bool s, .slice x n c, .slice y m d] 72)).alloc (.cells #[.bool s2, .slice x2 n2 c2, .slice y2 m2 d2] 70)) 72
  rw [size_alloc1, size_alloc1] at k5
  have k3 := below_alloc (below_alloc (below_alloc (Below.refl w.heap.size w) (.cells #[.int .i64 i, .bool s, .slice x n c, .slice y m d] 72)) (.cells #[.bool s2, .slice x2 n2 c2, .slice y2 m2 d2] 70)) (.cells #[.int .i64 0, .bool false, .slice none 0 0, .slice none 0 0] 72)
  have HF := hid (h1.below k3); have HQ := hid (h2.below k3)
  clear h1 h2
  have HRN := hid hr
  clear hr
  have hi3 : i = 0 ∨ (i = -1 ∨ i = 1) ∧ q = 0 := HF.out.inf
  have HQ0 : Hid (i = 0 ∨ (i = -1 ∨ i = 1) ∧ q * r = 0) := by
    rcases hi3 with h | ⟨h, k⟩
    · exact .inl h
    · exact .inr ⟨h, by rw [k, Rat.zero_mul]⟩
  have hi4 : i = 0 ∨ i = -1 ∨ i = 1 := by
    rcases hi3 with h | ⟨h | h, _⟩
    · exact .inl h
    · exact .inr (.inl h)
    · exact .inr (.inr h)
  have CM : Hid (∀ W, Below (((w.alloc (.cells #[.int .i64 i, .bool s, .slice x n c, .slice y m d] 72)).alloc (.cells #[.bool s2, .slice x2 n2 c2, .slice y2 m2 d2] 70)).alloc (.cells #[.int .i64 0, .bool false, .slice none 0 0, .slice none 0 0] 72)).heap.size (((w.alloc (.cells #[.int .i64 i, .bool s, .slice x n c, .slice y m d] 72)).alloc (.cells #[.bool s2, .slice x2 n2 c2, .slice y2 m2 d2] 70)).alloc (.cells #[.int .i64 0, .bool false, .slice none 0 0, .slice none 0 0] 72)) W → Calls Tryz.prog 96 #[.agg #[.bool s, .slice x n c, .slice y m d], .agg #[.bool s2, .slice x2 n2 c2, .slice y2 m2 d2]] W fun e w' => ∃ s x n c d y m c' g, e = .returned (.agg #[.bool s, .slice x n c, .slice y m c']) ∧ Below W.heap.size W w' ∧ Hid (n ≤ 900 ∧ m ≤ 900 ∧ Qn w' s x n d y m g (q * r))) := fun W hW => (qMul_c (HF.out.below hW).qn (HQ.out.below hW) (by omega) (by omega) (by omega) (by omega)).mono (fun _ _ ⟨s, x, n, c, d, y, m, c', g, k1, k2, k3, k4, k5⟩ => ⟨s, x, n, c, d, y, m, c', g, k1, k2, by omega, by omega, k5⟩)
  have CS : Hid (∀ W, Below (((w.alloc (.cells #[.int .i64 i, .bool s, .slice x n c, .slice y m d] 72)).alloc (.cells #[.bool s2, .slice x2 n2 c2, .slice y2 m2 d2] 70)).alloc (.cells #[.int .i64 0, .bool false, .slice none 0 0, .slice none 0 0] 72)).heap.size (((w.alloc (.cells #[.int .i64 i, .bool s, .slice x n c, .slice y m d] 72)).alloc (.cells #[.bool s2, .slice x2 n2 c2, .slice y2 m2 d2] 70)).alloc (.cells #[.int .i64 0, .bool false, .slice none 0 0, .slice none 0 0] 72)) W → Calls Tryz.prog 95 #[.agg #[.bool s2, .slice x2 n2 c2, .slice y2 m2 d2]] W fun e w' => e = .returned (.int .i64 (if s2 then -1 else 1)) ∧ Below W.heap.size W w') := fun W hW => by
    have hh := HQ.out.below hW
    refine (qSign_c hh (by omega)).mono ?_
    rintro e w' ⟨r', rfl, k0, jj⟩
    have h1 := hh.num.sgn
    have h2 := HRN.out
    refine ⟨?_, k0⟩
    cases s2
    · have h3 : r.num = (r.num.natAbs : Int) := h1
      rcases jj with ⟨j1, j2⟩ | ⟨j1, j2⟩ | ⟨j1, j2⟩
      · omega
      · omega
      · rw [j1]; rfl
    · have h3 : r.num = -(r.num.natAbs : Int) := h1
      rcases jj with ⟨j1, j2⟩ | ⟨j1, j2⟩ | ⟨j1, j2⟩
      · rw [j1]; rfl
      · omega
      · omega
  clear hi3
  rcases hi4 with rfl | rfl | rfl <;> cases s2
  · go_enter Tryz.func67, Tryz.ntmps67
    go_upto_region 1 with fail
    generalize ((w.alloc _).alloc _).alloc (.cells #[.int .i64 0, .bool false, .slice none 0 0, .slice none 0 0] 72) = w1 at *
    have HW := hid k3; have OB := hid k5
    obtain ⟨za, a0, a1, a2, a3⟩ := k1
    obtain ⟨zb, b0, b1, b2⟩ := k2
    obtain ⟨hz, z0, z1, z2, z3, zf⟩ := k5
    clear k3
    have CS' := CS.out
    simp only [Bool.false_eq_true, if_false] at CS'
    have CSG := hid CS'
    clear CS'
    go_region_held3 (fun w' => w'.cell? ⟨w.heap.size, 0, none⟩ = some (.int .i64 0) ∧ w'.cell? ⟨w.heap.size, 1, none⟩ = some (.bool s) ∧ w'.cell? ⟨w.heap.size, 2, none⟩ = some (.slice x n c) ∧ w'.cell? ⟨w.heap.size, 3, none⟩ = some (.slice y m d) ∧ w'.cell? ⟨w.heap.size + 1, 0, none⟩ = some (.bool false) ∧ w'.cell? ⟨w.heap.size + 1, 1, none⟩ = some (.slice x2 n2 c2) ∧ w'.cell? ⟨w.heap.size + 1, 2, none⟩ = some (.slice y2 m2 d2) ∧ (w'.cell? ⟨w.heap.size + 1 + 1, 0, none⟩).isSome = true ∧ (w'.cell? ⟨w.heap.size + 1 + 1, 1, none⟩).isSome = true ∧ (w'.cell? ⟨w.heap.size + 1 + 1, 2, none⟩).isSome = true ∧ (w'.cell? ⟨w.heap.size + 1 + 1, 3, none⟩).isSome = true ∧ w'.frozen? ⟨w.heap.size + 1 + 1, 0, none⟩ = false ∧ w'.frozen? ⟨w.heap.size + 1 + 1, 1, none⟩ = false ∧ w'.frozen? ⟨w.heap.size + 1 + 1, 2, none⟩ = false ∧ w'.frozen? ⟨w.heap.size + 1 + 1, 3, none⟩ = false)
      (refine ⟨?_, ?_, ?_, ?_, ?_, ?_, ?_, ?_, ?_, ?_, ?_, ?_, ?_, ?_, ?_⟩ <;> repeat (with_reducible first | assumption | exact zf _ | exact tf _ | exact uf _ | exact kI0 z0 | exact kI0 z1 | exact kI0 z2 | exact kI0 z3 | exact kI0 t0 | exact kI0 t1 | exact kI0 t2 | exact kI0 t3 | exact kI0 u0 | exact kI0 u1 | exact kI0 u2 | exact kI0 u3 | refine kCd ?_ | refine kId ?_ | refine kFd ?_ | refine kCs (by simp only [ne_eq]; omega) ?_ | refine kIs ?_ | refine kFs ?_ | refine kCb (by assumption) ?_ | refine kIb (by assumption) ?_))
      (first
        | (go_at_call 95; with_reducible refine (CSG.out _ (by repeat (with_reducible first | assumption | exact Below.refl _ _ | refine Below.drew ?_ | refine kBb (by assumption) ?_))).mono ?_; rintro e v5 ⟨rfl, hb5⟩; have Tt : Ob4 v5 (w.heap.size + 1 + 1) := (by repeat (with_reducible first | exact OB.out | exact Tt | exact Tu | refine Ob4.drew ?_ | refine kO4b (by assumption) ?_)); obtain ⟨_, t0, t1, t2, t3, tf⟩ := id Tt)
        | (go_at_call 96; with_reducible refine (CM.out _ (by repeat (with_reducible first | assumption | exact Below.refl _ _ | refine Below.drew ?_ | refine kBb (by assumption) ?_))).mono ?_; rintro e v6 ⟨s6, x6, n6, c6, d6, y6, m6, e6, g6, rfl, hb6, H6⟩; have Tu : Ob4 v6 (w.heap.size + 1 + 1) := (by repeat (with_reducible first | exact OB.out | exact Tt | exact Tu | refine Ob4.drew ?_ | refine kO4b (by assumption) ?_)); obtain ⟨_, u0, u1, u2, u3, uf⟩ := id Tu))
    all_goals
      first
        | (have hb : Below w1.heap.size w1 v6 := (by repeat (with_reducible first | assumption | exact Below.refl _ _ | refine Below.drew ?_ | refine kBb (by assumption) ?_))
           have hq6 : Qn v6 s6 x6 n6 d6 y6 m6 g6 (q * r) := (by repeat (with_reducible first | exact H6.out.2.2 | refine kQd ?_ | refine kQb (by assumption) ?_))
           have hO : Ob4 v6 (w.heap.size + 1 + 1) := Tu
           obtain ⟨_, o0, o1, o2, o3, _⟩ := id hO
           have hl6 := H6.out.1; have hl7 := H6.out.2.1
           go_wp2
           exact bodyPost_ret (v := .agg #[.int .i64 0, .bool s6, .slice x6 n6 c6, .slice y6 m6 e6]) (by simp [results, Tryz.results67, go_sem, o0, o1, o2, o3] <;> decide) rfl ⟨0, s6, x6, n6, c6, d6, y6, m6, e6, g6, q * r, rfl, below_st4 (HW.out.trans (hb.mono HW.out.size)) (by omega), hl6, hl7, ⟨hO.qn hq6, .inl rfl⟩, ⟨rfl, rfl⟩⟩)
        | (have hb : Below w1.heap.size w1 v5 := (by repeat (with_reducible first | assumption | exact Below.refl _ _ | refine Below.drew ?_ | refine kBb (by assumption) ?_))
           have hq6 : Qn v5 s6 x6 n6 d6 y6 m6 g6 (q * r) := (by repeat (with_reducible first | exact H6.out.2.2 | refine kQd ?_ | refine kQb (by assumption) ?_))
           have hO : Ob4 v5 (w.heap.size + 1 + 1) := Tt
           obtain ⟨_, o0, o1, o2, o3, _⟩ := id hO
           have hl6 := H6.out.1; have hl7 := H6.out.2.1
           go_wp2
           exact bodyPost_ret (v := .agg #[.int .i64 0, .bool s6, .slice x6 n6 c6, .slice y6 m6 e6]) (by simp [results, Tryz.results67, go_sem, o0, o1, o2, o3] <;> decide) rfl ⟨0, s6, x6, n6, c6, d6, y6, m6, e6, g6, q * r, rfl, below_st4 (HW.out.trans (hb.mono HW.out.size)) (by omega), hl6, hl7, ⟨hO.qn hq6, .inl rfl⟩, ⟨rfl, rfl⟩⟩)
  · go_enter Tryz.func67, Tryz.ntmps67
    go_upto_region 1 with fail
    generalize ((w.alloc _).alloc _).alloc (.cells #[.int .i64 0, .bool false, .slice none 0 0, .slice none 0 0] 72) = w1 at *
    have HW := hid k3; have OB := hid k5
    obtain ⟨za, a0, a1, a2, a3⟩ := k1
    obtain ⟨zb, b0, b1, b2⟩ := k2
    obtain ⟨hz, z0, z1, z2, z3, zf⟩ := k5
    clear k3
    have CS' := CS.out
    simp only [if_true] at CS'
    have CSG := hid CS'
    clear CS'
    go_region_held3 (fun w' => w'.cell? ⟨w.heap.size, 0, none⟩ = some (.int .i64 0) ∧ w'.cell? ⟨w.heap.size, 1, none⟩ = some (.bool s) ∧ w'.cell? ⟨w.heap.size, 2, none⟩ = some (.slice x n c) ∧ w'.cell? ⟨w.heap.size, 3, none⟩ = some (.slice y m d) ∧ w'.cell? ⟨w.heap.size + 1, 0, none⟩ = some (.bool true) ∧ w'.cell? ⟨w.heap.size + 1, 1, none⟩ = some (.slice x2 n2 c2) ∧ w'.cell? ⟨w.heap.size + 1, 2, none⟩ = some (.slice y2 m2 d2) ∧ (w'.cell? ⟨w.heap.size + 1 + 1, 0, none⟩).isSome = true ∧ (w'.cell? ⟨w.heap.size + 1 + 1, 1, none⟩).isSome = true ∧ (w'.cell? ⟨w.heap.size + 1 + 1, 2, none⟩).isSome = true ∧ (w'.cell? ⟨w.heap.size + 1 + 1, 3, none⟩).isSome = true ∧ w'.frozen? ⟨w.heap.size + 1 + 1, 0, none⟩ = false ∧ w'.frozen? ⟨w.heap.size + 1 + 1, 1, none⟩ = false ∧ w'.frozen? ⟨w.heap.size + 1 + 1, 2, none⟩ = false ∧ w'.frozen? ⟨w.heap.size + 1 + 1, 3, none⟩ = false)
      (refine ⟨?_, ?_, ?_, ?_, ?_, ?_, ?_, ?_, ?_, ?_, ?_, ?_, ?_, ?_, ?_⟩ <;> repeat (with_reducible first | assumption | exact zf _ | exact tf _ | exact uf _ | exact kI0 z0 | exact kI0 z1 | exact kI0 z2 | exact kI0 z3 | exact kI0 t0 | exact kI0 t1 | exact kI0 t2 | exact kI0 t3 | exact kI0 u0 | exact kI0 u1 | exact kI0 u2 | exact kI0 u3 | refine kCd ?_ | refine kId ?_ | refine kFd ?_ | refine kCs (by simp only [ne_eq]; omega) ?_ | refine kIs ?_ | refine kFs ?_ | refine kCb (by assumption) ?_ | refine kIb (by assumption) ?_))
      (first
        | (go_at_call 95; with_reducible refine (CSG.out _ (by repeat (with_reducible first | assumption | exact Below.refl _ _ | refine Below.drew ?_ | refine kBb (by assumption) ?_))).mono ?_; rintro e v5 ⟨rfl, hb5⟩; have Tt : Ob4 v5 (w.heap.size + 1 + 1) := (by repeat (with_reducible first | exact OB.out | exact Tt | exact Tu | refine Ob4.drew ?_ | refine kO4b (by assumption) ?_)); obtain ⟨_, t0, t1, t2, t3, tf⟩ := id Tt)
        | (go_at_call 96; with_reducible refine (CM.out _ (by repeat (with_reducible first | assumption | exact Below.refl _ _ | refine Below.drew ?_ | refine kBb (by assumption) ?_))).mono ?_; rintro e v6 ⟨s6, x6, n6, c6, d6, y6, m6, e6, g6, rfl, hb6, H6⟩; have Tu : Ob4 v6 (w.heap.size + 1 + 1) := (by repeat (with_reducible first | exact OB.out | exact Tt | exact Tu | refine Ob4.drew ?_ | refine kO4b (by assumption) ?_)); obtain ⟨_, u0, u1, u2, u3, uf⟩ := id Tu))
    all_goals
      first
        | (have hb : Below w1.heap.size w1 v6 := (by repeat (with_reducible first | assumption | exact Below.refl _ _ | refine Below.drew ?_ | refine kBb (by assumption) ?_))
           have hq6 : Qn v6 s6 x6 n6 d6 y6 m6 g6 (q * r) := (by repeat (with_reducible first | exact H6.out.2.2 | refine kQd ?_ | refine kQb (by assumption) ?_))
           have hO : Ob4 v6 (w.heap.size + 1 + 1) := Tu
           obtain ⟨_, o0, o1, o2, o3, _⟩ := id hO
           have hl6 := H6.out.1; have hl7 := H6.out.2.1
           go_wp2
           exact bodyPost_ret (v := .agg #[.int .i64 0, .bool s6, .slice x6 n6 c6, .slice y6 m6 e6]) (by simp [results, Tryz.results67, go_sem, o0, o1, o2, o3] <;> decide) rfl ⟨0, s6, x6, n6, c6, d6, y6, m6, e6, g6, q * r, rfl, below_st4 (HW.out.trans (hb.mono HW.out.size)) (by omega), hl6, hl7, ⟨hO.qn hq6, .inl rfl⟩, ⟨rfl, rfl⟩⟩)
        | (have hb : Below w1.heap.size w1 v5 := (by repeat (with_reducible first | assumption | exact Below.refl _ _ | refine Below.drew ?_ | refine kBb (by assumption) ?_))
           have hq6 : Qn v5 s6 x6 n6 d6 y6 m6 g6 (q * r) := (by repeat (with_reducible first | exact H6.out.2.2 | refine kQd ?_ | refine kQb (by assumption) ?_))
           have hO : Ob4 v5 (w.heap.size + 1 + 1) := Tt
           obtain ⟨_, o0, o1, o2, o3, _⟩ := id hO
           have hl6 := H6.out.1; have hl7 := H6.out.2.1
           go_wp2
           exact bodyPost_ret (v := .agg #[.int .i64 0, .bool s6, .slice x6 n6 c6, .slice y6 m6 e6]) (by simp [results, Tryz.results67, go_sem, o0, o1, o2, o3] <;> decide) rfl ⟨0, s6, x6, n6, c6, d6, y6, m6, e6, g6, q * r, rfl, below_st4 (HW.out.trans (hb.mono HW.out.size)) (by omega), hl6, hl7, ⟨hO.qn hq6, .inl rfl⟩, ⟨rfl, rfl⟩⟩)
  · go_enter Tryz.func67, Tryz.ntmps67
    go_upto_region 1 with fail
    generalize ((w.alloc _).alloc _).alloc (.cells #[.int .i64 0, .bool false, .slice none 0 0, .slice none 0 0] 72) = w1 at *
    have HW := hid k3; have OB := hid k5
    obtain ⟨za, a0, a1, a2, a3⟩ := k1
    obtain ⟨zb, b0, b1, b2⟩ := k2
    obtain ⟨hz, z0, z1, z2, z3, zf⟩ := k5
    clear k3
    have CS' := CS.out
    simp only [Bool.false_eq_true, if_false] at CS'
    have CSG := hid CS'
    clear CS'
    go_region_held3 (fun w' => w'.cell? ⟨w.heap.size, 0, none⟩ = some (.int .i64 (-1)) ∧ w'.cell? ⟨w.heap.size, 1, none⟩ = some (.bool s) ∧ w'.cell? ⟨w.heap.size, 2, none⟩ = some (.slice x n c) ∧ w'.cell? ⟨w.heap.size, 3, none⟩ = some (.slice y m d) ∧ w'.cell? ⟨w.heap.size + 1, 0, none⟩ = some (.bool false) ∧ w'.cell? ⟨w.heap.size + 1, 1, none⟩ = some (.slice x2 n2 c2) ∧ w'.cell? ⟨w.heap.size + 1, 2, none⟩ = some (.slice y2 m2 d2) ∧ (w'.cell? ⟨w.heap.size + 1 + 1, 0, none⟩).isSome = true ∧ (w'.cell? ⟨w.heap.size + 1 + 1, 1, none⟩).isSome = true ∧ (w'.cell? ⟨w.heap.size + 1 + 1, 2, none⟩).isSome = true ∧ (w'.cell? ⟨w.heap.size + 1 + 1, 3, none⟩).isSome = true ∧ w'.frozen? ⟨w.heap.size + 1 + 1, 0, none⟩ = false ∧ w'.frozen? ⟨w.heap.size + 1 + 1, 1, none⟩ = false ∧ w'.frozen? ⟨w.heap.size + 1 + 1, 2, none⟩ = false ∧ w'.frozen? ⟨w.heap.size + 1 + 1, 3, none⟩ = false)
      (refine ⟨?_, ?_, ?_, ?_, ?_, ?_, ?_, ?_, ?_, ?_, ?_, ?_, ?_, ?_, ?_⟩ <;> repeat (with_reducible first | assumption | exact zf _ | exact tf _ | exact uf _ | exact kI0 z0 | exact kI0 z1 | exact kI0 z2 | exact kI0 z3 | exact kI0 t0 | exact kI0 t1 | exact kI0 t2 | exact kI0 t3 | exact kI0 u0 | exact kI0 u1 | exact kI0 u2 | exact kI0 u3 | refine kCd ?_ | refine kId ?_ | refine kFd ?_ | refine kCs (by simp only [ne_eq]; omega) ?_ | refine kIs ?_ | refine kFs ?_ | refine kCb (by assumption) ?_ | refine kIb (by assumption) ?_))
      (first
        | (go_at_call 95; with_reducible refine (CSG.out _ (by repeat (with_reducible first | assumption | exact Below.refl _ _ | refine Below.drew ?_ | refine kBb (by assumption) ?_))).mono ?_; rintro e v5 ⟨rfl, hb5⟩; have Tt : Ob4 v5 (w.heap.size + 1 + 1) := (by repeat (with_reducible first | exact OB.out | exact Tt | exact Tu | refine Ob4.drew ?_ | refine kO4b (by assumption) ?_)); obtain ⟨_, t0, t1, t2, t3, tf⟩ := id Tt)
        | (go_at_call 96; with_reducible refine (CM.out _ (by repeat (with_reducible first | assumption | exact Below.refl _ _ | refine Below.drew ?_ | refine kBb (by assumption) ?_))).mono ?_; rintro e v6 ⟨s6, x6, n6, c6, d6, y6, m6, e6, g6, rfl, hb6, H6⟩; have Tu : Ob4 v6 (w.heap.size + 1 + 1) := (by repeat (with_reducible first | exact OB.out | exact Tt | exact Tu | refine Ob4.drew ?_ | refine kO4b (by assumption) ?_)); obtain ⟨_, u0, u1, u2, u3, uf⟩ := id Tu))
    all_goals
      first
        | (have hb : Below w1.heap.size w1 v6 := (by repeat (with_reducible first | assumption | exact Below.refl _ _ | refine Below.drew ?_ | refine kBb (by assumption) ?_))
           have hq6 : Qn v6 s6 x6 n6 d6 y6 m6 g6 (q * r) := (by repeat (with_reducible first | exact H6.out.2.2 | refine kQd ?_ | refine kQb (by assumption) ?_))
           have hO : Ob4 v6 (w.heap.size + 1 + 1) := Tu
           obtain ⟨_, o0, o1, o2, o3, _⟩ := id hO
           have hl6 := H6.out.1; have hl7 := H6.out.2.1
           go_wp2
           exact bodyPost_ret (v := .agg #[.int .i64 (-1), .bool s6, .slice x6 n6 c6, .slice y6 m6 e6]) (by simp [results, Tryz.results67, go_sem, o0, o1, o2, o3] <;> decide) rfl ⟨(-1), s6, x6, n6, c6, d6, y6, m6, e6, g6, q * r, rfl, below_st4 (HW.out.trans (hb.mono HW.out.size)) (by omega), hl6, hl7, ⟨hO.qn hq6, .inr ⟨by decide, (HQ0.out.resolve_left (by decide)).2⟩⟩, ⟨rfl, rfl⟩⟩)
        | (have hb : Below w1.heap.size w1 v5 := (by repeat (with_reducible first | assumption | exact Below.refl _ _ | refine Below.drew ?_ | refine kBb (by assumption) ?_))
           have hq6 : Qn v5 s6 x6 n6 d6 y6 m6 g6 (q * r) := (by repeat (with_reducible first | exact H6.out.2.2 | refine kQd ?_ | refine kQb (by assumption) ?_))
           have hO : Ob4 v5 (w.heap.size + 1 + 1) := Tt
           obtain ⟨_, o0, o1, o2, o3, _⟩ := id hO
           have hl6 := H6.out.1; have hl7 := H6.out.2.1
           go_wp2
           exact bodyPost_ret (v := .agg #[.int .i64 (-1), .bool s6, .slice x6 n6 c6, .slice y6 m6 e6]) (by simp [results, Tryz.results67, go_sem, o0, o1, o2, o3] <;> decide) rfl ⟨(-1), s6, x6, n6, c6, d6, y6, m6, e6, g6, q * r, rfl, below_st4 (HW.out.trans (hb.mono HW.out.size)) (by omega), hl6, hl7, ⟨hO.qn hq6, .inr ⟨by decide, (HQ0.out.resolve_left (by decide)).2⟩⟩, ⟨rfl, rfl⟩⟩)
  · go_enter Tryz.func67, Tryz.ntmps67
    go_upto_region 1 with fail
    generalize ((w.alloc _).alloc _).alloc (.cells #[.int .i64 0, .bool false, .slice none 0 0, .slice none 0 0] 72) = w1 at *
    have HW := hid k3; have OB := hid k5
    obtain ⟨za, a0, a1, a2, a3⟩ := k1
    obtain ⟨zb, b0, b1, b2⟩ := k2
    obtain ⟨hz, z0, z1, z2, z3, zf⟩ := k5
    clear k3
    have CS' := CS.out
    simp only [if_true] at CS'
    have CSG := hid CS'
    clear CS'
    go_region_held3 (fun w' => w'.cell? ⟨w.heap.size, 0, none⟩ = some (.int .i64 (-1)) ∧ w'.cell? ⟨w.heap.size, 1, none⟩ = some (.bool s) ∧ w'.cell? ⟨w.heap.size, 2, none⟩ = some (.slice x n c) ∧ w'.cell? ⟨w.heap.size, 3, none⟩ = some (.slice y m d) ∧ w'.cell? ⟨w.heap.size + 1, 0, none⟩ = some (.bool true) ∧ w'.cell? ⟨w.heap.size + 1, 1, none⟩ = some (.slice x2 n2 c2) ∧ w'.cell? ⟨w.heap.size + 1, 2, none⟩ = some (.slice y2 m2 d2) ∧ (w'.cell? ⟨w.heap.size + 1 + 1, 0, none⟩).isSome = true ∧ (w'.cell? ⟨w.heap.size + 1 + 1, 1, none⟩).isSome = true ∧ (w'.cell? ⟨w.heap.size + 1 + 1, 2, none⟩).isSome = true ∧ (w'.cell? ⟨w.heap.size + 1 + 1, 3, none⟩).isSome = true ∧ w'.frozen? ⟨w.heap.size + 1 + 1, 0, none⟩ = false ∧ w'.frozen? ⟨w.heap.size + 1 + 1, 1, none⟩ = false ∧ w'.frozen? ⟨w.heap.size + 1 + 1, 2, none⟩ = false ∧ w'.frozen? ⟨w.heap.size + 1 + 1, 3, none⟩ = false)
      (refine ⟨?_, ?_, ?_, ?_, ?_, ?_, ?_, ?_, ?_, ?_, ?_, ?_, ?_, ?_, ?_⟩ <;> repeat (with_reducible first | assumption | exact zf _ | exact tf _ | exact uf _ | exact kI0 z0 | exact kI0 z1 | exact kI0 z2 | exact kI0 z3 | exact kI0 t0 | exact kI0 t1 | exact kI0 t2 | exact kI0 t3 | exact kI0 u0 | exact kI0 u1 | exact kI0 u2 | exact kI0 u3 | refine kCd ?_ | refine kId ?_ | refine kFd ?_ | refine kCs (by simp only [ne_eq]; omega) ?_ | refine kIs ?_ | refine kFs ?_ | refine kCb (by assumption) ?_ | refine kIb (by assumption) ?_))
      (first
        | (go_at_call 95; with_reducible refine (CSG.out _ (by repeat (with_reducible first | assumption | exact Below.refl _ _ | refine Below.drew ?_ | refine kBb (by assumption) ?_))).mono ?_; rintro e v5 ⟨rfl, hb5⟩; have Tt : Ob4 v5 (w.heap.size + 1 + 1) := (by repeat (with_reducible first | exact OB.out | exact Tt | exact Tu | refine Ob4.drew ?_ | refine kO4b (by assumption) ?_)); obtain ⟨_, t0, t1, t2, t3, tf⟩ := id Tt)
        | (go_at_call 96; with_reducible refine (CM.out _ (by repeat (with_reducible first | assumption | exact Below.refl _ _ | refine Below.drew ?_ | refine kBb (by assumption) ?_))).mono ?_; rintro e v6 ⟨s6, x6, n6, c6, d6, y6, m6, e6, g6, rfl, hb6, H6⟩; have Tu : Ob4 v6 (w.heap.size + 1 + 1) := (by repeat (with_reducible first | exact OB.out | exact Tt | exact Tu | refine Ob4.drew ?_ | refine kO4b (by assumption) ?_)); obtain ⟨_, u0, u1, u2, u3, uf⟩ := id Tu))
    all_goals
      first
        | (have hb : Below w1.heap.size w1 v6 := (by repeat (with_reducible first | assumption | exact Below.refl _ _ | refine Below.drew ?_ | refine kBb (by assumption) ?_))
           have hq6 : Qn v6 s6 x6 n6 d6 y6 m6 g6 (q * r) := (by repeat (with_reducible first | exact H6.out.2.2 | refine kQd ?_ | refine kQb (by assumption) ?_))
           have hO : Ob4 v6 (w.heap.size + 1 + 1) := Tu
           obtain ⟨_, o0, o1, o2, o3, _⟩ := id hO
           have hl6 := H6.out.1; have hl7 := H6.out.2.1
           go_wp2
           exact bodyPost_ret (v := .agg #[.int .i64 1, .bool s6, .slice x6 n6 c6, .slice y6 m6 e6]) (by simp [results, Tryz.results67, go_sem, o0, o1, o2, o3] <;> decide) rfl ⟨1, s6, x6, n6, c6, d6, y6, m6, e6, g6, q * r, rfl, below_st4 (HW.out.trans (hb.mono HW.out.size)) (by omega), hl6, hl7, ⟨hO.qn hq6, .inr ⟨by decide, (HQ0.out.resolve_left (by decide)).2⟩⟩, ⟨rfl, rfl⟩⟩)
        | (have hb : Below w1.heap.size w1 v5 := (by repeat (with_reducible first | assumption | exact Below.refl _ _ | refine Below.drew ?_ | refine kBb (by assumption) ?_))
           have hq6 : Qn v5 s6 x6 n6 d6 y6 m6 g6 (q * r) := (by repeat (with_reducible first | exact H6.out.2.2 | refine kQd ?_ | refine kQb (by assumption) ?_))
           have hO : Ob4 v5 (w.heap.size + 1 + 1) := Tt
           obtain ⟨_, o0, o1, o2, o3, _⟩ := id hO
           have hl6 := H6.out.1; have hl7 := H6.out.2.1
           go_wp2
           exact bodyPost_ret (v := .agg #[.int .i64 1, .bool s6, .slice x6 n6 c6, .slice y6 m6 e6]) (by simp [results, Tryz.results67, go_sem, o0, o1, o2, o3] <;> decide) rfl ⟨1, s6, x6, n6, c6, d6, y6, m6, e6, g6, q * r, rfl, below_st4 (HW.out.trans (hb.mono HW.out.size)) (by omega), hl6, hl7, ⟨hO.qn hq6, .inr ⟨by decide, (HQ0.out.resolve_left (by decide)).2⟩⟩, ⟨rfl, rfl⟩⟩)
  · go_enter Tryz.func67, Tryz.ntmps67
    go_upto_region 1 with fail
    generalize ((w.alloc _).alloc _).alloc (.cells #[.int .i64 0, .bool false, .slice none 0 0, .slice none 0 0] 72) = w1 at *
    have HW := hid k3; have OB := hid k5
    obtain ⟨za, a0, a1, a2, a3⟩ := k1
    obtain ⟨zb, b0, b1, b2⟩ := k2
    obtain ⟨hz, z0, z1, z2, z3, zf⟩ := k5
    clear k3
    have CS' := CS.out
    simp only [Bool.false_eq_true, if_false] at CS'
    have CSG := hid CS'
    clear CS'
    go_region_held3 (fun w' => w'.cell? ⟨w.heap.size, 0, none⟩ = some (.int .i64 1) ∧ w'.cell? ⟨w.heap.size, 1, none⟩ = some (.bool s) ∧ w'.cell? ⟨w.heap.size, 2, none⟩ = some (.slice x n c) ∧ w'.cell? ⟨w.heap.size, 3, none⟩ = some (.slice y m d) ∧ w'.cell? ⟨w.heap.size + 1, 0, none⟩ = some (.bool false) ∧ w'.cell? ⟨w.heap.size + 1, 1, none⟩ = some (.slice x2 n2 c2) ∧ w'.cell? ⟨w.heap.size + 1, 2, none⟩ = some (.slice y2 m2 d2) ∧ (w'.cell? ⟨w.heap.size + 1 + 1, 0, none⟩).isSome = true ∧ (w'.cell? ⟨w.heap.size + 1 + 1, 1, none⟩).isSome = true ∧ (w'.cell? ⟨w.heap.size + 1 + 1, 2, none⟩).isSome = true ∧ (w'.cell? ⟨w.heap.size + 1 + 1, 3, none⟩).isSome = true ∧ w'.frozen? ⟨w.heap.size + 1 + 1, 0, none⟩ = false ∧ w'.frozen? ⟨w.heap.size + 1 + 1, 1, none⟩ = false ∧ w'.frozen? ⟨w.heap.size + 1 + 1, 2, none⟩ = false ∧ w'.frozen? ⟨w.heap.size + 1 + 1, 3, none⟩ = false)
      (refine ⟨?_, ?_, ?_, ?_, ?_, ?_, ?_, ?_, ?_, ?_, ?_, ?_, ?_, ?_, ?_⟩ <;> repeat (with_reducible first | assumption | exact zf _ | exact tf _ | exact uf _ | exact kI0 z0 | exact kI0 z1 | exact kI0 z2 | exact kI0 z3 | exact kI0 t0 | exact kI0 t1 | exact kI0 t2 | exact kI0 t3 | exact kI0 u0 | exact kI0 u1 | exact kI0 u2 | exact kI0 u3 | refine kCd ?_ | refine kId ?_ | refine kFd ?_ | refine kCs (by simp only [ne_eq]; omega) ?_ | refine kIs ?_ | refine kFs ?_ | refine kCb (by assumption) ?_ | refine kIb (by assumption) ?_))
      (first
        | (go_at_call 95; with_reducible refine (CSG.out _ (by repeat (with_reducible first | assumption | exact Below.refl _ _ | refine Below.drew ?_ | refine kBb (by assumption) ?_))).mono ?_; rintro e v5 ⟨rfl, hb5⟩; have Tt : Ob4 v5 (w.heap.size + 1 + 1) := (by repeat (with_reducible first | exact OB.out | exact Tt | exact Tu | refine Ob4.drew ?_ | refine kO4b (by assumption) ?_)); obtain ⟨_, t0, t1, t2, t3, tf⟩ := id Tt)
        | (go_at_call 96; with_reducible refine (CM.out _ (by repeat (with_reducible first | assumption | exact Below.refl _ _ | refine Below.drew ?_ | refine kBb (by assumption) ?_))).mono ?_; rintro e v6 ⟨s6, x6, n6, c6, d6, y6, m6, e6, g6, rfl, hb6, H6⟩; have Tu : Ob4 v6 (w.heap.size + 1 + 1) := (by repeat (with_reducible first | exact OB.out | exact Tt | exact Tu | refine Ob4.drew ?_ | refine kO4b (by assumption) ?_)); obtain ⟨_, u0, u1, u2, u3, uf⟩ := id Tu))
    all_goals
      first
        | (have hb : Below w1.heap.size w1 v6 := (by repeat (with_reducible first | assumption | exact Below.refl _ _ | refine Below.drew ?_ | refine kBb (by assumption) ?_))
           have hq6 : Qn v6 s6 x6 n6 d6 y6 m6 g6 (q * r) := (by repeat (with_reducible first | exact H6.out.2.2 | refine kQd ?_ | refine kQb (by assumption) ?_))
           have hO : Ob4 v6 (w.heap.size + 1 + 1) := Tu
           obtain ⟨_, o0, o1, o2, o3, _⟩ := id hO
           have hl6 := H6.out.1; have hl7 := H6.out.2.1
           go_wp2
           exact bodyPost_ret (v := .agg #[.int .i64 1, .bool s6, .slice x6 n6 c6, .slice y6 m6 e6]) (by simp [results, Tryz.results67, go_sem, o0, o1, o2, o3] <;> decide) rfl ⟨1, s6, x6, n6, c6, d6, y6, m6, e6, g6, q * r, rfl, below_st4 (HW.out.trans (hb.mono HW.out.size)) (by omega), hl6, hl7, ⟨hO.qn hq6, .inr ⟨by decide, (HQ0.out.resolve_left (by decide)).2⟩⟩, ⟨rfl, rfl⟩⟩)
        | (have hb : Below w1.heap.size w1 v5 := (by repeat (with_reducible first | assumption | exact Below.refl _ _ | refine Below.drew ?_ | refine kBb (by assumption) ?_))
           have hq6 : Qn v5 s6 x6 n6 d6 y6 m6 g6 (q * r) := (by repeat (with_reducible first | exact H6.out.2.2 | refine kQd ?_ | refine kQb (by assumption) ?_))
           have hO : Ob4 v5 (w.heap.size + 1 + 1) := Tt
           obtain ⟨_, o0, o1, o2, o3, _⟩ := id hO
           have hl6 := H6.out.1; have hl7 := H6.out.2.1
           go_wp2
           exact bodyPost_ret (v := .agg #[.int .i64 1, .bool s6, .slice x6 n6 c6, .slice y6 m6 e6]) (by simp [results, Tryz.results67, go_sem, o0, o1, o2, o3] <;> decide) rfl ⟨1, s6, x6, n6, c6, d6, y6, m6, e6, g6, q * r, rfl, below_st4 (HW.out.trans (hb.mono HW.out.size)) (by omega), hl6, hl7, ⟨hO.qn hq6, .inr ⟨by decide, (HQ0.out.resolve_left (by decide)).2⟩⟩, ⟨rfl, rfl⟩⟩)
  · go_enter Tryz.func67, Tryz.ntmps67
    go_upto_region 1 with fail
    generalize ((w.alloc _).alloc _).alloc (.cells #[.int .i64 0, .bool false, .slice none 0 0, .slice none 0 0] 72) = w1 at *
    have HW := hid k3; have OB := hid k5
    obtain ⟨za, a0, a1, a2, a3⟩ := k1
    obtain ⟨zb, b0, b1, b2⟩ := k2
    obtain ⟨hz, z0, z1, z2, z3, zf⟩ := k5
    clear k3
    have CS' := CS.out
    simp only [if_true] at CS'
    have CSG := hid CS'
    clear CS'
    go_region_held3 (fun w' => w'.cell? ⟨w.heap.size, 0, none⟩ = some (.int .i64 1) ∧ w'.cell? ⟨w.heap.size, 1, none⟩ = some (.bool s) ∧ w'.cell? ⟨w.heap.size, 2, none⟩ = some (.slice x n c) ∧ w'.cell? ⟨w.heap.size, 3, none⟩ = some (.slice y m d) ∧ w'.cell? ⟨w.heap.size + 1, 0, none⟩ = some (.bool true) ∧ w'.cell? ⟨w.heap.size + 1, 1, none⟩ = some (.slice x2 n2 c2) ∧ w'.cell? ⟨w.heap.size + 1, 2, none⟩ = some (.slice y2 m2 d2) ∧ (w'.cell? ⟨w.heap.size + 1 + 1, 0, none⟩).isSome = true ∧ (w'.cell? ⟨w.heap.size + 1 + 1, 1, none⟩).isSome = true ∧ (w'.cell? ⟨w.heap.size + 1 + 1, 2, none⟩).isSome = true ∧ (w'.cell? ⟨w.heap.size + 1 + 1, 3, none⟩).isSome = true ∧ w'.frozen? ⟨w.heap.size + 1 + 1, 0, none⟩ = false ∧ w'.frozen? ⟨w.heap.size + 1 + 1, 1, none⟩ = false ∧ w'.frozen? ⟨w.heap.size + 1 + 1, 2, none⟩ = false ∧ w'.frozen? ⟨w.heap.size + 1 + 1, 3, none⟩ = false)
      (refine ⟨?_, ?_, ?_, ?_, ?_, ?_, ?_, ?_, ?_, ?_, ?_, ?_, ?_, ?_, ?_⟩ <;> repeat (with_reducible first | assumption | exact zf _ | exact tf _ | exact uf _ | exact kI0 z0 | exact kI0 z1 | exact kI0 z2 | exact kI0 z3 | exact kI0 t0 | exact kI0 t1 | exact kI0 t2 | exact kI0 t3 | exact kI0 u0 | exact kI0 u1 | exact kI0 u2 | exact kI0 u3 | refine kCd ?_ | refine kId ?_ | refine kFd ?_ | refine kCs (by simp only [ne_eq]; omega) ?_ | refine kIs ?_ | refine kFs ?_ | refine kCb (by assumption) ?_ | refine kIb (by assumption) ?_))
      (first
        | (go_at_call 95; with_reducible refine (CSG.out _ (by repeat (with_reducible first | assumption | exact Below.refl _ _ | refine Below.drew ?_ | refine kBb (by assumption) ?_))).mono ?_; rintro e v5 ⟨rfl, hb5⟩; have Tt : Ob4 v5 (w.heap.size + 1 + 1) := (by repeat (with_reducible first | exact OB.out | exact Tt | exact Tu | refine Ob4.drew ?_ | refine kO4b (by assumption) ?_)); obtain ⟨_, t0, t1, t2, t3, tf⟩ := id Tt)
        | (go_at_call 96; with_reducible refine (CM.out _ (by repeat (with_reducible first | assumption | exact Below.refl _ _ | refine Below.drew ?_ | refine kBb (by assumption) ?_))).mono ?_; rintro e v6 ⟨s6, x6, n6, c6, d6, y6, m6, e6, g6, rfl, hb6, H6⟩; have Tu : Ob4 v6 (w.heap.size + 1 + 1) := (by repeat (with_reducible first | exact OB.out | exact Tt | exact Tu | refine Ob4.drew ?_ | refine kO4b (by assumption) ?_)); obtain ⟨_, u0, u1, u2, u3, uf⟩ := id Tu))
    all_goals
      first
        | (have hb : Below w1.heap.size w1 v6 := (by repeat (with_reducible first | assumption | exact Below.refl _ _ | refine Below.drew ?_ | refine kBb (by assumption) ?_))
           have hq6 : Qn v6 s6 x6 n6 d6 y6 m6 g6 (q * r) := (by repeat (with_reducible first | exact H6.out.2.2 | refine kQd ?_ | refine kQb (by assumption) ?_))
           have hO : Ob4 v6 (w.heap.size + 1 + 1) := Tu
           obtain ⟨_, o0, o1, o2, o3, _⟩ := id hO
           have hl6 := H6.out.1; have hl7 := H6.out.2.1
           go_wp2
           exact bodyPost_ret (v := .agg #[.int .i64 (-1), .bool s6, .slice x6 n6 c6, .slice y6 m6 e6]) (by simp [results, Tryz.results67, go_sem, o0, o1, o2, o3] <;> decide) rfl ⟨(-1), s6, x6, n6, c6, d6, y6, m6, e6, g6, q * r, rfl, below_st4 (HW.out.trans (hb.mono HW.out.size)) (by omega), hl6, hl7, ⟨hO.qn hq6, .inr ⟨by decide, (HQ0.out.resolve_left (by decide)).2⟩⟩, ⟨rfl, rfl⟩⟩)
        | (have hb : Below w1.heap.size w1 v5 := (by repeat (with_reducible first | assumption | exact Below.refl _ _ | refine Below.drew ?_ | refine kBb (by assumption) ?_))
           have hq6 : Qn v5 s6 x6 n6 d6 y6 m6 g6 (q * r) := (by repeat (with_reducible first | exact H6.out.2.2 | refine kQd ?_ | refine kQb (by assumption) ?_))
           have hO : Ob4 v5 (w.heap.size + 1 + 1) := Tt
           obtain ⟨_, o0, o1, o2, o3, _⟩ := id hO
           have hl6 := H6.out.1; have hl7 := H6.out.2.1
           go_wp2
           exact bodyPost_ret (v := .agg #[.int .i64 (-1), .bool s6, .slice x6 n6 c6, .slice y6 m6 e6]) (by simp [results, Tryz.results67, go_sem, o0, o1, o2, o3] <;> decide) rfl ⟨(-1), s6, x6, n6, c6, d6, y6, m6, e6, g6, q * r, rfl, below_st4 (HW.out.trans (hb.mono HW.out.size)) (by omega), hl6, hl7, ⟨hO.qn hq6, .inr ⟨by decide, (HQ0.out.resolve_left (by decide)).2⟩⟩, ⟨rfl, rfl⟩⟩)

set_option maxRecDepth 100000 in
set_option maxHeartbeats 4000000 in
theorem docShiftX_g {w : World} {i : Int} {s : Bool} {x : Option Addr} {n c : Nat} {f : Nat → Int} {y : Option Addr} {m d : Nat} {g : Nat → Int} {s2 : Bool} {x2 : Option Addr} {n2 c2 : Nat} {f2 : Nat → Int} {y2 : Option Addr} {m2 d2 : Nat} {g2 : Nat → Int} {p1 p2 : Bool} {q r : Rat} (h1 : Rw w x n c f y m d g) (h2 : Rw w x2 n2 c2 f2 y2 m2 d2 g2) (hn : n ≤ 100) (hm : m ≤ 100) (hn2 : n2 ≤ 100) (hm2 : m2 ≤ 100) (hp1 : efB i s f n g m = p1) (hp2 : rfB s2 f2 n2 g2 m2 = p2) (hq1 : p1 = true → En 100 w i s x n c f y m d g q) (hq2 : p2 = true → Rn 100 w s2 x2 n2 c2 f2 y2 m2 d2 g2 r) :
    Calls Tryz.prog 27 #[.agg #[.int .i64 i, .bool s, .slice x n c, .slice y m d], .agg #[.bool s2, .slice x2 n2 c2, .slice y2 m2 d2]] w fun e w' => MRes (kx (p1 && p2)) (PShift i q r) w w' e := by
  have k1 := ((bx4_at w (.int .i64 i) (.bool s) (.slice x n c) (.slice y m d) 26).alloc (.cells #[.bool s2, .slice x2 n2 c2, .slice y2 m2 d2] 24)).alloc (.cells #[.int .i64 0, .bool false, .slice none 0 0, .slice none 0 0] 26)
  have k2 := (bx3_at (w.alloc (.cells #[.int .i64 i, .bool s, .slice x n c, .slice y m d] 26)) (.bool s2) (.slice x2 n2 c2) (.slice y2 m2 d2) 24).alloc (.cells #[.int .i64 0, .bool false, .slice none 0 0, .slice none 0 0] 26)
  rw [size_alloc1] at k2
  have k5 := ob4_new ((w.alloc (.cells #[.int .i64 i, .bool s, .slice x n c, .slice y m d] 26)).alloc (.cells #[.bool s2, .slice x2 n2 c2, .slice y2 m2 d2] 24)) 26
  rw [size_alloc1, size_alloc1] at k5
  have k3 := below_alloc (below_alloc (below_alloc (Below.refl w.heap.size w) (.cells #[.int .i64 i, .bool s, .slice x n c, .slice y m d] 26)) (.cells #[.bool s2, .slice x2 n2 c2, .slice y2 m2 d2] 24)) (.cells #[.int .i64 0, .bool false, .slice none 0 0, .slice none 0 0] 26)
  have HR1 := hid (h1.below k3); have HR2 := hid (h2.below k3); have HP1 := hid hp1; have HP2 := hid hp2; have HQ1 := hid (fun k => (hq1 k).below k3); have HQ2 := hid (fun k => (hq2 k).below k3)
  clear h1 h2 hp1 hp2 hq1 hq2
  go_enter Tryz.func27, Tryz.ntmps27
  go_upto_region 1 with fail
  generalize ((w.alloc (.cells #[.int .i64 i, .bool s, .slice x n c, .slice y m d] 26)).alloc (.cells #[.bool s2, .slice x2 n2 c2, .slice y2 m2 d2] 24)).alloc (.cells #[.int .i64 0, .bool false, .slice none 0 0, .slice none 0 0] 26) = w1 at *
  have HW := hid k3; have OB := hid k5; have BA := hid k1; have BB := hid k2
  clear k1 k2 k3 k5
  have c1 := xForm_c (i := i) (s := s) HR1.out (by omega) (by omega)
  rw [HP1.out] at c1
  have C1 := hid c1
  have c2 := fun W hW => qForm_c (s := s2) (HR2.out.below (w' := W) hW) (by omega) (by omega)
  rw [HP2.out] at c2
  have C2 := hid c2
  clear c1 c2
  obtain ⟨za, a0, a1, a2, a3⟩ := BA.out
  go_wp2_with fail
  refine C1.out.mono ?_
  rintro e w2 ⟨rfl, hb⟩
  have HB1 := hid hb
  clear hb za a0 a1 a2 a3
  cases p1
  · have HB := hid (HW.out.trans (HB1.out.mono HW.out.size))
    obtain ⟨hz, z0, z1, z2, z3, zf⟩ := OB.out.below HB1.out
    go_wp2
    exact bodyPost_ret (v := .tuple #[.agg #[.int .i64 0, .bool false, .slice none 0 0, .slice none 0 0], .int .i64 3]) (by simp [results, Tryz.results27, go_sem, z0, z1, z2, z3]) rfl ⟨0, false, none, 0, 0, fun _ => 0, none, 0, 0, fun _ => 0, 3, rfl, below_st4 HB.out (by omega), rfl, .inl ⟨by exact (by decide : (3 : Int) ≠ 0), rfl, rfl, rfl, rfl⟩⟩
  obtain ⟨zb, b0, b1, b2⟩ := BB.out.below HB1.out
  go_wp2_with fail
  refine (C2.out _ HB1.out).mono ?_
  rintro e w3 ⟨rfl, hb⟩
  have HB3 := hid (HB1.out.trans (hb.mono HB1.out.size))
  have HB := hid (HW.out.trans (HB3.out.mono HW.out.size))
  have OB3 := hid (OB.out.below HB3.out)
  clear hb zb b0 b1 b2
  cases p2
  · obtain ⟨hz, z0, z1, z2, z3, zf⟩ := OB3.out
    go_wp2
    exact bodyPost_ret (v := .tuple #[.agg #[.int .i64 0, .bool false, .slice none 0 0, .slice none 0 0], .int .i64 3]) (by simp [results, Tryz.results27, go_sem, z0, z1, z2, z3]) rfl ⟨0, false, none, 0, 0, fun _ => 0, none, 0, 0, fun _ => 0, 3, rfl, below_st4 HB.out (by omega), rfl, .inl ⟨by exact (by decide : (3 : Int) ≠ 0), rfl, rfl, rfl, rfl⟩⟩
  have E3 := hid ((HQ1.out (by simp)).below HB3.out); have S3 := hid ((HQ2.out (by simp)).below HB3.out)
  obtain ⟨za, a0, a1, a2, a3⟩ := BA.out.below HB3.out
  obtain ⟨zb, b0, b1, b2⟩ := BB.out.below HB3.out
  obtain ⟨hz, z0, z1, z2, z3, zf⟩ := OB3.out
  have CF1 : Hid (∀ W, Below w3.heap.size w3 W → Calls Tryz.prog 49 #[.agg #[.int .i64 i, .bool s, .slice x n c, .slice y m d]] W fun e w' => ∃ s x n c d y m c' g, e = .returned (.agg #[.int .i64 i, .bool s, .slice x n c, .slice y m c']) ∧ Below W.heap.size W w' ∧ Hid (n ≤ 200 ∧ m ≤ 200 ∧ Fn w' i s x n d y m g q)) := fun W hW => xFrom_c (E3.out.below hW) (by omega)
  have CF2 : Hid (∀ W, Below w3.heap.size w3 W → Calls Tryz.prog 60 #[.agg #[.bool s2, .slice x2 n2 c2, .slice y2 m2 d2]] W fun e w' => ∃ s x n c d y m c' g, e = .returned (.agg #[.bool s, .slice x n c, .slice y m c']) ∧ Below W.heap.size W w' ∧ Hid (n ≤ 200 ∧ m ≤ 200 ∧ Qn w' s x n d y m g r)) := fun W hW => qFrom_c (S3.out.below hW) (by omega)
  obtain ⟨ii, hii⟩ : ∃ ii, ii = i := ⟨_, rfl⟩
  obtain ⟨qq, hqq⟩ : ∃ qq, qq = q := ⟨_, rfl⟩
  have HII := hid hii; have HQQ := hid hqq
  have CC' : Hid (∀ (W : World) (s5 : Bool) (x5 : Option Addr) (n5 c5 : Nat) (d5 : Nat → Int) (y5 : Option Addr) (m5 e5 : Nat) (g5 : Nat → Int) (s6 : Bool) (x6 : Option Addr) (n6 c6 : Nat) (d6 : Nat → Int) (y6 : Option Addr) (m6 e6 : Nat) (g6 : Nat → Int), n5 ≤ 200 → m5 ≤ 200 → n6 ≤ 200 → m6 ≤ 200 → Fn W i s5 x5 n5 d5 y5 m5 g5 q → Qn W s6 x6 n6 d6 y6 m6 g6 r → Calls Tryz.prog 65 #[.agg #[.int .i64 i, .bool s5, .slice x5 n5 c5, .slice y5 m5 e5], .agg #[.bool s6, .slice x6 n6 c6, .slice y6 m6 e6]] W fun e w' => ∃ i s x n c d y m c' g q, e = .returned (.agg #[.int .i64 i, .bool s, .slice x n c, .slice y m c']) ∧ Below W.heap.size W w' ∧ Hid (n ≤ 900 ∧ m ≤ 900 ∧ Fn w' i s x n d y m g q ∧ PShift ii qq r i q)) := fun W s5 x5 n5 c5 d5 y5 m5 e5 g5 s6 x6 n6 c6 d6 y6 m6 e6 g6 l1 l2 l3 l4 k1 k2 => by rw [HII.out, HQQ.out]; exact xShift_c k1 k2 l1 l2 l3 l4
  clear hii hqq
  have CT : Hid (∀ (W : World) (i : Int) (s : Bool) (x : Option Addr) (n c : Nat) (d : Nat → Int) (y : Option Addr) (m e : Nat) (g : Nat → Int) (q : Rat), n ≤ 900 → m ≤ 900 → Fn W i s x n d y m g q → Calls Tryz.prog 42 #[.agg #[.int .i64 i, .bool s, .slice x n c, .slice y m e]] W fun en w' => ∃ z k c' f z2 k2 c2 f2, en = .returned (.agg #[.int .i64 i, .bool s, .slice z k c', .slice z2 k2 c2]) ∧ Below W.heap.size W w' ∧ Hid (En 2000 w' i s z k c' f z2 k2 c2 f2 q)) := fun W i s x n c d y m e g q l1 l2 k1 => (xTo_c k1 (by omega) (by omega)).mono (fun _ _ ⟨z, k, c', f, z2, k2, c2, f2, j1, j2, j3⟩ => ⟨z, k, c', f, z2, k2, c2, f2, j1, j2, j3.out.mono (by omega)⟩)
  go_wp2_with fail
  go_region_held3 (fun w' => w'.cell? ⟨w.heap.size, 0, none⟩ = some (.int .i64 i) ∧ w'.cell? ⟨w.heap.size, 1, none⟩ = some (.bool s) ∧ w'.cell? ⟨w.heap.size, 2, none⟩ = some (.slice x n c) ∧ w'.cell? ⟨w.heap.size, 3, none⟩ = some (.slice y m d) ∧ w'.cell? ⟨w.heap.size + 1, 0, none⟩ = some (.bool s2) ∧ w'.cell? ⟨w.heap.size + 1, 1, none⟩ = some (.slice x2 n2 c2) ∧ w'.cell? ⟨w.heap.size + 1, 2, none⟩ = some (.slice y2 m2 d2) ∧ (w'.cell? ⟨w.heap.size + 1 + 1, 0, none⟩).isSome = true ∧ (w'.cell? ⟨w.heap.size + 1 + 1, 1, none⟩).isSome = true ∧ (w'.cell? ⟨w.heap.size + 1 + 1, 2, none⟩).isSome = true ∧ (w'.cell? ⟨w.heap.size + 1 + 1, 3, none⟩).isSome = true ∧ w'.frozen? ⟨w.heap.size + 1 + 1, 0, none⟩ = false ∧ w'.frozen? ⟨w.heap.size + 1 + 1, 1, none⟩ = false ∧ w'.frozen? ⟨w.heap.size + 1 + 1, 2, none⟩ = false ∧ w'.frozen? ⟨w.heap.size + 1 + 1, 3, none⟩ = false)
    (refine ⟨?_, ?_, ?_, ?_, ?_, ?_, ?_, ?_, ?_, ?_, ?_, ?_, ?_, ?_, ?_⟩ <;> repeat (with_reducible first | assumption | exact zf _ | exact tf _ | exact uf _ | exact vf' _ | exact rf' _ | exact kI0 z0 | exact kI0 z1 | exact kI0 z2 | exact kI0 z3 | exact kI0 t0 | exact kI0 t1 | exact kI0 t2 | exact kI0 t3 | exact kI0 u0 | exact kI0 u1 | exact kI0 u2 | exact kI0 u3 | exact kI0 v0 | exact kI0 v1 | exact kI0 v2 | exact kI0 v3 | exact kI0 r0 | exact kI0 r1 | exact kI0 r2 | exact kI0 r3 | refine kCd ?_ | refine kId ?_ | refine kFd ?_ | refine kCs (by simp only [ne_eq]; omega) ?_ | refine kIs ?_ | refine kFs ?_ | refine kCb (by assumption) ?_ | refine kIb (by assumption) ?_))
    (first
      | (go_at_call 49; with_reducible refine (CF1.out _ (by repeat (with_reducible first | assumption | exact Below.refl _ _ | refine Below.drew ?_ | refine kBb (by assumption) ?_))).mono ?_; rintro e v5 ⟨s5, x5, n5, c5, d5, y5, m5, e5, g5, rfl, hb5, H5⟩; have Tt : Ob4 v5 (w.heap.size + 1 + 1) := (by repeat (with_reducible first | exact OB3.out | exact Tt | exact Tu | exact Tv | exact Tr | refine Ob4.drew ?_ | refine kO4b (by assumption) ?_)); obtain ⟨_, t0, t1, t2, t3, tf⟩ := id Tt)
      | (go_at_call 60; with_reducible refine (CF2.out _ (by repeat (with_reducible first | assumption | exact Below.refl _ _ | refine Below.drew ?_ | refine kBb (by assumption) ?_))).mono ?_; rintro e v6 ⟨s6, x6, n6, c6, d6, y6, m6, e6, g6, rfl, hb6, H6⟩; have Tu : Ob4 v6 (w.heap.size + 1 + 1) := (by repeat (with_reducible first | exact OB3.out | exact Tt | exact Tu | exact Tv | exact Tr | refine Ob4.drew ?_ | refine kO4b (by assumption) ?_)); obtain ⟨_, u0, u1, u2, u3, uf⟩ := id Tu)
      | (go_at_call 65; with_reducible refine (CC'.out _ s5 x5 n5 c5 d5 y5 m5 e5 g5 s6 x6 n6 c6 d6 y6 m6 e6 g6 H5.out.1 H5.out.2.1 H6.out.1 H6.out.2.1 (by repeat (with_reducible first | exact H5.out.2.2 | refine kFnd ?_ | refine kFnb (by assumption) ?_)) (by repeat (with_reducible first | exact H6.out.2.2 | refine kQd ?_ | refine kQb (by assumption) ?_))).mono ?_; rintro e v7 ⟨i7, s7, x7, n7, c7, d7, y7, m7, e7, g7, q7, rfl, hb7, H7⟩; have Tv : Ob4 v7 (w.heap.size + 1 + 1) := (by repeat (with_reducible first | exact OB3.out | exact Tt | exact Tu | exact Tv | exact Tr | refine Ob4.drew ?_ | refine kO4b (by assumption) ?_)); obtain ⟨_, v0, v1, v2, v3, vf'⟩ := id Tv)
      | (go_at_call 42; with_reducible refine (CT.out _ i7 s7 x7 n7 c7 d7 y7 m7 e7 g7 q7 H7.out.1 H7.out.2.1 (by repeat (with_reducible first | exact H7.out.2.2.1 | refine kFnd ?_ | refine kFnb (by assumption) ?_))).mono ?_; rintro e v8 ⟨x8, n8, c8, f8, y8, m8, d8, g8, rfl, hb8, H8⟩; have Tr : Ob4 v8 (w.heap.size + 1 + 1) := (by repeat (with_reducible first | exact OB3.out | exact Tt | exact Tu | exact Tv | exact Tr | refine Ob4.drew ?_ | refine kO4b (by assumption) ?_)); obtain ⟨_, r0, r1, r2, r3, rf'⟩ := id Tr))
  all_goals
    have hb : Below w3.heap.size w3 v8 := (by repeat (with_reducible first | assumption | exact Below.refl _ _ | refine Below.drew ?_ | refine kBb (by assumption) ?_))
    go_wp2
    exact bodyPost_ret (v := .tuple #[.agg #[.int .i64 i7, .bool s7, .slice x8 n8 c8, .slice y8 m8 d8], .int .i64 0]) (by simp [results, Tryz.results27, go_sem, r0, r1, r2, r3]) rfl ⟨i7, s7, x8, n8, c8, f8, y8, m8, d8, g8, 0, rfl, below_st4 (HB.out.trans (hb.mono HB.out.size)) (by omega), rfl, .inr ⟨rfl, q7, by have := H7.out.2.2.2; rw [HII.out, HQQ.out] at this; exact this, ⟨Tr.rn H8.out.rn, H8.out.inf⟩⟩⟩

set_option maxRecDepth 100000 in
set_option maxHeartbeats 4000000 in
theorem docScaleX_g {w : World} {i : Int} {s : Bool} {x : Option Addr} {n c : Nat} {f : Nat → Int} {y : Option Addr} {m d : Nat} {g : Nat → Int} {s2 : Bool} {x2 : Option Addr} {n2 c2 : Nat} {f2 : Nat → Int} {y2 : Option Addr} {m2 d2 : Nat} {g2 : Nat → Int} {p1 p2 : Bool} {q r : Rat} (h1 : Rw w x n c f y m d g) (h2 : Rw w x2 n2 c2 f2 y2 m2 d2 g2) (hn : n ≤ 100) (hm : m ≤ 100) (hn2 : n2 ≤ 100) (hm2 : m2 ≤ 100) (hp1 : efB i s f n g m = p1) (hp2 : rfB s2 f2 n2 g2 m2 = p2) (hq1 : p1 = true → En 100 w i s x n c f y m d g q) (hq2 : p2 = true → Rn 100 w s2 x2 n2 c2 f2 y2 m2 d2 g2 r) :
    Calls Tryz.prog 29 #[.agg #[.int .i64 i, .bool s, .slice x n c, .slice y m d], .agg #[.bool s2, .slice x2 n2 c2, .slice y2 m2 d2]] w fun e w' => MRes (ks (p1 && p2) n2) (PScale i q r s2) w w' e := by
  have k1 := ((bx4_at w (.int .i64 i) (.bool s) (.slice x n c) (.slice y m d) 26).alloc (.cells #[.bool s2, .slice x2 n2 c2, .slice y2 m2 d2] 24)).alloc (.cells #[.int .i64 0, .bool false, .slice none 0 0, .slice none 0 0] 26)
  have k2 := (bx3_at (w.alloc (.cells #[.int .i64 i, .bool s, .slice x n c, .slice y m d] 26)) (.bool s2) (.slice x2 n2 c2) (.slice y2 m2 d2) 24).alloc (.cells #[.int .i64 0, .bool false, .slice none 0 0, .slice none 0 0] 26)
  rw [size_alloc1] at k2
  have k5 := ob4_new ((w.alloc (.cells #[.int .i64 i, .bool s, .slice x n c, .slice y m d] 26)).alloc (.cells #[.bool s2, .slice x2 n2 c2, .slice y2 m2 d2] 24)) 26
  rw [size_alloc1, size_alloc1] at k5
  have k3 := below_alloc (below_alloc (below_alloc (Below.refl w.heap.size w) (.cells #[.int .i64 i, .bool s, .slice x n c, .slice y m d] 26)) (.cells #[.bool s2, .slice x2 n2 c2, .slice y2 m2 d2] 24)) (.cells #[.int .i64 0, .bool false, .slice none 0 0, .slice none 0 0] 26)
  have HR1 := hid (h1.below k3); have HR2 := hid (h2.below k3); have HP1 := hid hp1; have HP2 := hid hp2; have HQ1 := hid (fun k => (hq1 k).below k3); have HQ2 := hid (fun k => (hq2 k).below k3)
  clear h1 h2 hp1 hp2 hq1 hq2
  go_enter Tryz.func29, Tryz.ntmps29
  go_upto_region 1 with fail
  generalize ((w.alloc (.cells #[.int .i64 i, .bool s, .slice x n c, .slice y m d] 26)).alloc (.cells #[.bool s2, .slice x2 n2 c2, .slice y2 m2 d2] 24)).alloc (.cells #[.int .i64 0, .bool false, .slice none 0 0, .slice none 0 0] 26) = w1 at *
  have HW := hid k3; have OB := hid k5; have BA := hid k1; have BB := hid k2
  clear k1 k2 k3 k5
  have c1 := xForm_c (i := i) (s := s) HR1.out (by omega) (by omega)
  rw [HP1.out] at c1
  have C1 := hid c1
  have c2 := fun W hW => qForm_c (s := s2) (HR2.out.below (w' := W) hW) (by omega) (by omega)
  rw [HP2.out] at c2
  have C2 := hid c2
  clear c1 c2
  obtain ⟨za, a0, a1, a2, a3⟩ := BA.out
  go_wp2_with fail
  refine C1.out.mono ?_
  rintro e w2 ⟨rfl, hb⟩
  have HB1 := hid hb
  clear hb za a0 a1 a2 a3
  cases p1
  · have HB := hid (HW.out.trans (HB1.out.mono HW.out.size))
    obtain ⟨hz, z0, z1, z2, z3, zf⟩ := OB.out.below HB1.out
    go_wp2
    exact bodyPost_ret (v := .tuple #[.agg #[.int .i64 0, .bool false, .slice none 0 0, .slice none 0 0], .int .i64 3]) (by simp [results, Tryz.results29, go_sem, z0, z1, z2, z3]) rfl ⟨0, false, none, 0, 0, fun _ => 0, none, 0, 0, fun _ => 0, 3, rfl, below_st4 HB.out (by omega), rfl, .inl ⟨by exact (by decide : (3 : Int) ≠ 0), rfl, rfl, rfl, rfl⟩⟩
  obtain ⟨zb, b0, b1, b2⟩ := BB.out.below HB1.out
  go_wp2_with fail
  refine (C2.out _ HB1.out).mono ?_
  rintro e w3 ⟨rfl, hb⟩
  have HB3 := hid (HB1.out.trans (hb.mono HB1.out.size))
  have HB := hid (HW.out.trans (HB3.out.mono HW.out.size))
  have OB3 := hid (OB.out.below HB3.out)
  clear hb zb b0 b1 b2
  cases p2
  · obtain ⟨hz, z0, z1, z2, z3, zf⟩ := OB3.out
    go_wp2
    exact bodyPost_ret (v := .tuple #[.agg #[.int .i64 0, .bool false, .slice none 0 0, .slice none 0 0], .int .i64 3]) (by simp [results, Tryz.results29, go_sem, z0, z1, z2, z3]) rfl ⟨0, false, none, 0, 0, fun _ => 0, none, 0, 0, fun _ => 0, 3, rfl, below_st4 HB.out (by omega), rfl, .inl ⟨by exact (by decide : (3 : Int) ≠ 0), rfl, rfl, rfl, rfl⟩⟩
  have E3 := hid ((HQ1.out (by simp)).below HB3.out); have S3 := hid ((HQ2.out (by simp)).below HB3.out)
  obtain ⟨za, a0, a1, a2, a3⟩ := BA.out.below HB3.out
  obtain ⟨zb, b0, b1, b2⟩ := BB.out.below HB3.out
  by_cases hz2 : n2 = 0
  · have hzb : ((n2 : Int) == 0) = true := by simp; omega
    have HK : Hid (ks (true && true) n2 = 4) := by show ks (true && true) n2 = 4; simp [ks, hz2]
    clear hz2
    obtain ⟨hz, z0, z1, z2, z3, zf⟩ := OB3.out
    go_wp2
    exact bodyPost_ret (v := .tuple #[.agg #[.int .i64 0, .bool false, .slice none 0 0, .slice none 0 0], .int .i64 4]) (by simp [results, Tryz.results29, go_sem, z0, z1, z2, z3]) rfl ⟨0, false, none, 0, 0, fun _ => 0, none, 0, 0, fun _ => 0, 4, rfl, below_st4 HB.out (by omega), HK.out.symm, .inl ⟨by rw [HK.out]; decide, rfl, rfl, rfl, rfl⟩⟩
  have hzb : ((n2 : Int) == 0) = false := by simp; omega
  have HK : Hid (ks (true && true) n2 = 0) := by show ks (true && true) n2 = 0; simp [ks, hz2]
  have HRN : Hid (r.num ≠ 0) := fun h => hz2 (S3.out.num_zero.1 h)
  clear hz2
  obtain ⟨hz, z0, z1, z2, z3, zf⟩ := OB3.out
  have CF1 : Hid (∀ W, Below w3.heap.size w3 W → Calls Tryz.prog 49 #[.agg #[.int .i64 i, .bool s, .slice x n c, .slice y m d]] W fun e w' => ∃ s x n c d y m c' g, e = .returned (.agg #[.int .i64 i, .bool s, .slice x n c, .slice y m c']) ∧ Below W.heap.size W w' ∧ Hid (n ≤ 200 ∧ m ≤ 200 ∧ Fn w' i s x n d y m g q)) := fun W hW => xFrom_c (E3.out.below hW) (by omega)
  have CF2 : Hid (∀ W, Below w3.heap.size w3 W → Calls Tryz.prog 60 #[.agg #[.bool s2, .slice x2 n2 c2, .slice y2 m2 d2]] W fun e w' => ∃ s x n c d y m c' g, e = .returned (.agg #[.bool s, .slice x n c, .slice y m c']) ∧ Below W.heap.size W w' ∧ Hid (n ≤ 200 ∧ m ≤ 200 ∧ Qn w' s x n d y m g r)) := fun W hW => qFrom_c (S3.out.below hW) (by omega)
  obtain ⟨ii, hii⟩ : ∃ ii, ii = i := ⟨_, rfl⟩
  obtain ⟨qq, hqq⟩ : ∃ qq, qq = q := ⟨_, rfl⟩
  have HII := hid hii; have HQQ := hid hqq
  have CC' : Hid (∀ (W : World) (s5 : Bool) (x5 : Option Addr) (n5 c5 : Nat) (d5 : Nat → Int) (y5 : Option Addr) (m5 e5 : Nat) (g5 : Nat → Int) (s6 : Bool) (x6 : Option Addr) (n6 c6 : Nat) (d6 : Nat → Int) (y6 : Option Addr) (m6 e6 : Nat) (g6 : Nat → Int), n5 ≤ 200 → m5 ≤ 200 → n6 ≤ 200 → m6 ≤ 200 → Fn W i s5 x5 n5 d5 y5 m5 g5 q → Qn W s6 x6 n6 d6 y6 m6 g6 r → Calls Tryz.prog 67 #[.agg #[.int .i64 i, .bool s5, .slice x5 n5 c5, .slice y5 m5 e5], .agg #[.bool s6, .slice x6 n6 c6, .slice y6 m6 e6]] W fun e w' => ∃ i s x n c d y m c' g q, e = .returned (.agg #[.int .i64 i, .bool s, .slice x n c, .slice y m c']) ∧ Below W.heap.size W w' ∧ Hid (n ≤ 900 ∧ m ≤ 900 ∧ Fn w' i s x n d y m g q ∧ PScale ii qq r s2 i q)) := fun W s5 x5 n5 c5 d5 y5 m5 e5 g5 s6 x6 n6 c6 d6 y6 m6 e6 g6 l1 l2 l3 l4 k1 k2 => by
    have hs : s6 = s2 := by
      have h1 := k2.num.sgn; have h2 := S3.out.num.sgn; have h3 := HRN.out
      cases s6 <;> cases s2 <;> simp [sg] at h1 h2 <;> first | rfl | omega
    subst hs
    rw [HII.out, HQQ.out]
    exact xScale_c k1 k2 HRN.out l1 l2 l3 l4
  clear hii hqq
  have CT : Hid (∀ (W : World) (i : Int) (s : Bool) (x : Option Addr) (n c : Nat) (d : Nat → Int) (y : Option Addr) (m e : Nat) (g : Nat → Int) (q : Rat), n ≤ 900 → m ≤ 900 → Fn W i s x n d y m g q → Calls Tryz.prog 42 #[.agg #[.int .i64 i, .bool s, .slice x n c, .slice y m e]] W fun en w' => ∃ z k c' f z2 k2 c2 f2, en = .returned (.agg #[.int .i64 i, .bool s, .slice z k c', .slice z2 k2 c2]) ∧ Below W.heap.size W w' ∧ Hid (En 2000 w' i s z k c' f z2 k2 c2 f2 q)) := fun W i s x n c d y m e g q l1 l2 k1 => (xTo_c k1 (by omega) (by omega)).mono (fun _ _ ⟨z, k, c', f, z2, k2, c2, f2, j1, j2, j3⟩ => ⟨z, k, c', f, z2, k2, c2, f2, j1, j2, j3.out.mono (by omega)⟩)
  go_wp2_with fail
  go_region_held3 (fun w' => w'.cell? ⟨w.heap.size, 0, none⟩ = some (.int .i64 i) ∧ w'.cell? ⟨w.heap.size, 1, none⟩ = some (.bool s) ∧ w'.cell? ⟨w.heap.size, 2, none⟩ = some (.slice x n c) ∧ w'.cell? ⟨w.heap.size, 3, none⟩ = some (.slice y m d) ∧ w'.cell? ⟨w.heap.size + 1, 0, none⟩ = some (.bool s2) ∧ w'.cell? ⟨w.heap.size + 1, 1, none⟩ = some (.slice x2 n2 c2) ∧ w'.cell? ⟨w.heap.size + 1, 2, none⟩ = some (.slice y2 m2 d2) ∧ (w'.cell? ⟨w.heap.size + 1 + 1, 0, none⟩).isSome = true ∧ (w'.cell? ⟨w.heap.size + 1 + 1, 1, none⟩).isSome = true ∧ (w'.cell? ⟨w.heap.size + 1 + 1, 2, none⟩).isSome = true ∧ (w'.cell? ⟨w.heap.size + 1 + 1, 3, none⟩).isSome = true ∧ w'.frozen? ⟨w.heap.size + 1 + 1, 0, none⟩ = false ∧ w'.frozen? ⟨w.heap.size + 1 + 1, 1, none⟩ = false ∧ w'.frozen? ⟨w.heap.size + 1 + 1, 2, none⟩ = false ∧ w'.frozen? ⟨w.heap.size + 1 + 1, 3, none⟩ = false)
    (refine ⟨?_, ?_, ?_, ?_, ?_, ?_, ?_, ?_, ?_, ?_, ?_, ?_, ?_, ?_, ?_⟩ <;> repeat (with_reducible first | assumption | exact zf _ | exact tf _ | exact uf _ | exact vf' _ | exact rf' _ | exact kI0 z0 | exact kI0 z1 | exact kI0 z2 | exact kI0 z3 | exact kI0 t0 | exact kI0 t1 | exact kI0 t2 | exact kI0 t3 | exact kI0 u0 | exact kI0 u1 | exact kI0 u2 | exact kI0 u3 | exact kI0 v0 | exact kI0 v1 | exact kI0 v2 | exact kI0 v3 | exact kI0 r0 | exact kI0 r1 | exact kI0 r2 | exact kI0 r3 | refine kCd ?_ | refine kId ?_ | refine kFd ?_ | refine kCs (by simp only [ne_eq]; omega) ?_ | refine kIs ?_ | refine kFs ?_ | refine kCb (by assumption) ?_ | refine kIb (by assumption) ?_))
    (first
      | (go_at_call 49; with_reducible refine (CF1.out _ (by repeat (with_reducible first | assumption | exact Below.refl _ _ | refine Below.drew ?_ | refine kBb (by assumption) ?_))).mono ?_; rintro e v5 ⟨s5, x5, n5, c5, d5, y5, m5, e5, g5, rfl, hb5, H5⟩; have Tt : Ob4 v5 (w.heap.size + 1 + 1) := (by repeat (with_reducible first | exact OB3.out | exact Tt | exact Tu | exact Tv | exact Tr | refine Ob4.drew ?_ | refine kO4b (by assumption) ?_)); obtain ⟨_, t0, t1, t2, t3, tf⟩ := id Tt)
      | (go_at_call 60; with_reducible refine (CF2.out _ (by repeat (with_reducible first | assumption | exact Below.refl _ _ | refine Below.drew ?_ | refine kBb (by assumption) ?_))).mono ?_; rintro e v6 ⟨s6, x6, n6, c6, d6, y6, m6, e6, g6, rfl, hb6, H6⟩; have Tu : Ob4 v6 (w.heap.size + 1 + 1) := (by repeat (with_reducible first | exact OB3.out | exact Tt | exact Tu | exact Tv | exact Tr | refine Ob4.drew ?_ | refine kO4b (by assumption) ?_)); obtain ⟨_, u0, u1, u2, u3, uf⟩ := id Tu)
      | (go_at_call 67; with_reducible refine (CC'.out _ s5 x5 n5 c5 d5 y5 m5 e5 g5 s6 x6 n6 c6 d6 y6 m6 e6 g6 H5.out.1 H5.out.2.1 H6.out.1 H6.out.2.1 (by repeat (with_reducible first | exact H5.out.2.2 | refine kFnd ?_ | refine kFnb (by assumption) ?_)) (by repeat (with_reducible first | exact H6.out.2.2 | refine kQd ?_ | refine kQb (by assumption) ?_))).mono ?_; rintro e v7 ⟨i7, s7, x7, n7, c7, d7, y7, m7, e7, g7, q7, rfl, hb7, H7⟩; have Tv : Ob4 v7 (w.heap.size + 1 + 1) := (by repeat (with_reducible first | exact OB3.out | exact Tt | exact Tu | exact Tv | exact Tr | refine Ob4.drew ?_ | refine kO4b (by assumption) ?_)); obtain ⟨_, v0, v1, v2, v3, vf'⟩ := id Tv)
      | (go_at_call 42; with_reducible refine (CT.out _ i7 s7 x7 n7 c7 d7 y7 m7 e7 g7 q7 H7.out.1 H7.out.2.1 (by repeat (with_reducible first | exact H7.out.2.2.1 | refine kFnd ?_ | refine kFnb (by assumption) ?_))).mono ?_; rintro e v8 ⟨x8, n8, c8, f8, y8, m8, d8, g8, rfl, hb8, H8⟩; have Tr : Ob4 v8 (w.heap.size + 1 + 1) := (by repeat (with_reducible first | exact OB3.out | exact Tt | exact Tu | exact Tv | exact Tr | refine Ob4.drew ?_ | refine kO4b (by assumption) ?_)); obtain ⟨_, r0, r1, r2, r3, rf'⟩ := id Tr))
  all_goals
    have hb : Below w3.heap.size w3 v8 := (by repeat (with_reducible first | assumption | exact Below.refl _ _ | refine Below.drew ?_ | refine kBb (by assumption) ?_))
    go_wp2
    exact bodyPost_ret (v := .tuple #[.agg #[.int .i64 i7, .bool s7, .slice x8 n8 c8, .slice y8 m8 d8], .int .i64 0]) (by simp [results, Tryz.results29, go_sem, r0, r1, r2, r3]) rfl ⟨i7, s7, x8, n8, c8, f8, y8, m8, d8, g8, 0, rfl, below_st4 (HB.out.trans (hb.mono HB.out.size)) (by omega), HK.out.symm, .inr ⟨HK.out, q7, by have := H7.out.2.2.2; rw [HII.out, HQQ.out] at this; exact this, ⟨Tr.rn H8.out.rn, H8.out.inf⟩⟩⟩

set_option maxRecDepth 100000 in
set_option maxHeartbeats 4000000 in
theorem docOfX_g {w : World} {s2 : Bool} {x2 : Option Addr} {n2 c2 : Nat} {f2 : Nat → Int} {y2 : Option Addr} {m2 d2 : Nat} {g2 : Nat → Int} {p : Bool} {r : Rat} (h : Rw w x2 n2 c2 f2 y2 m2 d2 g2) (hn : n2 ≤ 100) (hm : m2 ≤ 100) (hp : rfB s2 f2 n2 g2 m2 = p) (hq : p = true → Rn 100 w s2 x2 n2 c2 f2 y2 m2 d2 g2 r) :
    Calls Tryz.prog 23 #[.agg #[.bool s2, .slice x2 n2 c2, .slice y2 m2 d2]] w fun e w' => MRes (kx p) (POf r) w w' e := by
  have k1 := (bx3_at w (.bool s2) (.slice x2 n2 c2) (.slice y2 m2 d2) 24).alloc (.cells #[.int .i64 0, .bool false, .slice none 0 0, .slice none 0 0] 26)
  have k5 := ob4_new (w.alloc (.cells #[.bool s2, .slice x2 n2 c2, .slice y2 m2 d2] 24)) 26
  rw [size_alloc1] at k5
  have k3 := below_alloc (below_alloc (Below.refl w.heap.size w) (.cells #[.bool s2, .slice x2 n2 c2, .slice y2 m2 d2] 24)) (.cells #[.int .i64 0, .bool false, .slice none 0 0, .slice none 0 0] 26)
  have HR := hid (h.below k3); have HP := hid hp; have HQ := hid (fun k => (hq k).below k3)
  clear h hp hq
  go_enter Tryz.func23, Tryz.ntmps23
  go_upto_region 1 with fail
  generalize (w.alloc (.cells #[.bool s2, .slice x2 n2 c2, .slice y2 m2 d2] 24)).alloc (.cells #[.int .i64 0, .bool false, .slice none 0 0, .slice none 0 0] 26) = w1 at *
  have HW := hid k3; have OB := hid k5; have BB := hid k1
  clear k1 k3 k5
  obtain ⟨zb, b0, b1, b2⟩ := BB.out
  have c1 := qForm_c (s := s2) HR.out (by omega) (by omega)
  rw [HP.out] at c1
  have C1 := hid c1
  clear c1
  go_wp2_with fail
  refine C1.out.mono ?_
  rintro e w3 ⟨rfl, hb⟩
  have HB3 := hid hb
  have HB := hid (HW.out.trans (HB3.out.mono HW.out.size))
  clear hb zb b0 b1 b2
  cases p
  · obtain ⟨hz, z0, z1, z2, z3, zf⟩ := OB.out.below HB3.out
    go_wp2
    exact bodyPost_ret (v := .tuple #[.agg #[.int .i64 0, .bool false, .slice none 0 0, .slice none 0 0], .int .i64 3]) (by simp [results, Tryz.results23, go_sem, z0, z1, z2, z3]) rfl ⟨0, false, none, 0, 0, fun _ => 0, none, 0, 0, fun _ => 0, 3, rfl, below_st4 HB.out (by omega), rfl, .inl ⟨by exact (by decide : (3 : Int) ≠ 0), rfl, rfl, rfl, rfl⟩⟩
  have E3 := hid ((HQ.out (by simp)).below HB3.out)
  obtain ⟨zb, b0, b1, b2⟩ := BB.out.below HB3.out
  go_wp2_with fail
  refine (qFrom_c E3.out (by omega)).mono ?_
  rintro e w4 ⟨s4, x4, n4, c4, d4, y4, m4, e4, g4, rfl, hb, l1, l2, hq⟩
  have HB4 := hid (HB3.out.trans (hb.mono HB3.out.size)); have Q4 := hid hq
  clear hb hq zb b0 b1 b2
  go_wp2_with fail
  refine (xNum_c Q4.out).mono ?_
  rintro e w5 ⟨rfl, hb, hf⟩
  have HB5 := hid (HB4.out.trans (hb.mono HB4.out.size)); have F5 := hid hf
  clear hb hf
  go_wp2_with fail
  refine (xTo_c F5.out (by omega) (by omega)).mono ?_
  rintro e w6 ⟨x6, n6, c6, f6, y6, m6, d6, g6, rfl, hb, H6⟩
  have HB6 := hid (HW.out.trans ((HB5.out.trans (hb.mono HB5.out.size)).mono HW.out.size)); have OB6 := hid ((OB.out.below HB5.out).below hb)
  clear hb
  obtain ⟨hz, z0, z1, z2, z3, zf⟩ := OB6.out
  go_wp2
  exact bodyPost_ret (v := .tuple #[.agg #[.int .i64 0, .bool s4, .slice x6 n6 c6, .slice y6 m6 d6], .int .i64 0]) (by simp [results, Tryz.results23, go_sem, z0, z1, z2, z3]) rfl ⟨0, s4, x6, n6, c6, f6, y6, m6, d6, g6, 0, rfl, below_st4 HB6.out (by omega), rfl, .inr ⟨rfl, r, ⟨rfl, rfl⟩, ⟨OB6.out.rn (H6.out.rn.mono (by omega)), .inl rfl⟩⟩⟩

set_option maxRecDepth 100000 in
set_option maxHeartbeats 4000000 in
theorem docNegX_g {w : World} {i : Int} {s : Bool} {x : Option Addr} {n c : Nat} {f : Nat → Int} {y : Option Addr} {m d : Nat} {g : Nat → Int} {p : Bool} {q : Rat} (h : Rw w x n c f y m d g) (hn : n ≤ 100) (hm : m ≤ 100) (hp : efB i s f n g m = p) (hq : p = true → En 100 w i s x n c f y m d g q) :
    Calls Tryz.prog 25 #[.agg #[.int .i64 i, .bool s, .slice x n c, .slice y m d]] w fun e w' => MRes (kx p) (PNeg i q) w w' e := by
  have k1 := (bx4_at w (.int .i64 i) (.bool s) (.slice x n c) (.slice y m d) 26).alloc (.cells #[.int .i64 0, .bool false, .slice none 0 0, .slice none 0 0] 26)
  have k5 := ob4_new (w.alloc (.cells #[.int .i64 i, .bool s, .slice x n c, .slice y m d] 26)) 26
  rw [size_alloc1] at k5
  have k3 := below_alloc (below_alloc (Below.refl w.heap.size w) (.cells #[.int .i64 i, .bool s, .slice x n c, .slice y m d] 26)) (.cells #[.int .i64 0, .bool false, .slice none 0 0, .slice none 0 0] 26)
  have HR := hid (h.below k3); have HP := hid hp; have HQ := hid (fun k => (hq k).below k3)
  clear h hp hq
  go_enter Tryz.func25, Tryz.ntmps25
  go_upto_region 1 with fail
  generalize (w.alloc (.cells #[.int .i64 i, .bool s, .slice x n c, .slice y m d] 26)).alloc (.cells #[.int .i64 0, .bool false, .slice none 0 0, .slice none 0 0] 26) = w1 at *
  have HW := hid k3; have OB := hid k5; have BB := hid k1
  clear k1 k3 k5
  obtain ⟨zb, b0, b1, b2, b3⟩ := BB.out
  have c1 := xForm_c (i := i) (s := s) HR.out (by omega) (by omega)
  rw [HP.out] at c1
  have C1 := hid c1
  clear c1
  go_wp2_with fail
  refine C1.out.mono ?_
  rintro e w3 ⟨rfl, hb⟩
  have HB3 := hid hb
  have HB := hid (HW.out.trans (HB3.out.mono HW.out.size))
  clear hb zb b0 b1 b2 b3
  cases p
  · obtain ⟨hz, z0, z1, z2, z3, zf⟩ := OB.out.below HB3.out
    go_wp2
    exact bodyPost_ret (v := .tuple #[.agg #[.int .i64 0, .bool false, .slice none 0 0, .slice none 0 0], .int .i64 3]) (by simp [results, Tryz.results25, go_sem, z0, z1, z2, z3]) rfl ⟨0, false, none, 0, 0, fun _ => 0, none, 0, 0, fun _ => 0, 3, rfl, below_st4 HB.out (by omega), rfl, .inl ⟨by exact (by decide : (3 : Int) ≠ 0), rfl, rfl, rfl, rfl⟩⟩
  have E3 := hid ((HQ.out (by simp)).below HB3.out)
  obtain ⟨zb, b0, b1, b2, b3⟩ := BB.out.below HB3.out
  go_wp2_with fail
  refine (xFrom_c E3.out (by omega)).mono ?_
  rintro e w4 ⟨s4, x4, n4, c4, d4, y4, m4, e4, g4, rfl, hb, H4⟩
  have HB4 := hid (HB3.out.trans (hb.mono HB3.out.size))
  have l1 := H4.out.1; have l2 := H4.out.2.1
  clear hb zb b0 b1 b2 b3
  go_wp2_with fail
  refine (xNeg_c (c := c4) (d := e4) H4.out.2.2 (by omega)).mono ?_
  rintro e w5 ⟨s5, c5, rfl, hb, H5⟩
  have HB5 := hid (HB4.out.trans (hb.mono HB4.out.size))
  clear hb
  obtain ⟨j, hj⟩ : ∃ j, -i = j := ⟨_, rfl⟩
  have HJ := hid hj
  rw [hj]
  rw [hj] at H5
  clear hj
  go_wp2_with fail
  refine (xTo_c H5.out (by omega) (by omega)).mono ?_
  rintro e w6 ⟨x6, n6, c6, f6, y6, m6, d6, g6, rfl, hb, H6⟩
  have HB6 := hid (HW.out.trans ((HB5.out.trans (hb.mono HB5.out.size)).mono HW.out.size)); have OB6 := hid ((OB.out.below HB5.out).below hb)
  clear hb
  obtain ⟨hz, z0, z1, z2, z3, zf⟩ := OB6.out
  go_wp2
  exact bodyPost_ret (v := .tuple #[.agg #[.int .i64 j, .bool s5, .slice x6 n6 c6, .slice y6 m6 d6], .int .i64 0]) (by simp [results, Tryz.results25, go_sem, z0, z1, z2, z3]) rfl ⟨j, s5, x6, n6, c6, f6, y6, m6, d6, g6, 0, rfl, below_st4 HB6.out (by omega), rfl, .inr ⟨rfl, -q, ⟨HJ.out.symm, rfl⟩, ⟨OB6.out.rn (H6.out.rn.mono (by omega)), H6.out.inf⟩⟩⟩
end Go.Proofs.YtbindadjepfkcaaGreatDoor
namespace Go.Proofs.YtbindadjepfkcaaGreatDoor
open Go.RowKit

theorem Wb.ox {w B i s x n c y m d u0 u1 u2 u3 k P i' s' x' n' c' f' y' m' d' g' er} (h : Wb w B i s x n c y m d) (hx : OX k P w i' s' x' n' c' f' y' m' d' g' er) : OX k P ((((w.setCell ⟨B, 0, none⟩ u0).setCell ⟨B, 1, none⟩ u1).setCell ⟨B, 2, none⟩ u2).setCell ⟨B, 3, none⟩ u3) i' s' x' n' c' f' y' m' d' g' er := by
  rcases hx with ⟨h0, h1 | ⟨h1, q, h3, h4⟩⟩
  · exact ⟨h0, .inl h1⟩
  · exact ⟨h0, .inr ⟨h1, q, h3, ⟨⟨⟨h.rd h4.rn.num.rd, h4.rn.num.lm, h4.rn.num.wf, h4.rn.num.cap, h4.rn.num.nil, h4.rn.num.val⟩, ⟨h.rd h4.rn.den.rd, h4.rn.den.lm, h4.rn.den.wf, h4.rn.den.cap, h4.rn.den.nil, h4.rn.den.val⟩, h4.rn.ln, h4.rn.ld⟩, h4.inf⟩⟩⟩
/-- A bound that was answered, in a box. -/
structure MAt (k : Int) (P : Int → Rat → Prop) (w1 wx : World) (b8 : Nat) (i : Int) (s : Bool) (x : Option Addr) (n c : Nat) (f : Nat → Int) (y : Option Addr) (m d : Nat) (g : Nat → Int) (er : Int) : Prop where
  wb : Wb wx b8 i s x n c y m d
  bel : Below w1.heap.size w1 wx
  ox : OX k P wx i s x n c f y m d g er
theorem mat_w {k P w1 v i s x n c f y m d g er i' s' x' n' c' y' m' d'} {b8 : Nat} (hb : Below w1.heap.size w1 v) (h : OX k P v i s x n c f y m d g er) (h8 : Wb v b8 i' s' x' n' c' y' m' d') (o8 : w1.heap.size ≤ b8) : MAt k P w1 ((((v.setCell ⟨b8, 0, none⟩ (.int .i64 i)).setCell ⟨b8, 1, none⟩ (.bool s)).setCell ⟨b8, 2, none⟩ (.slice x n c)).setCell ⟨b8, 3, none⟩ (.slice y m d)) b8 i s x n c f y m d g er := ⟨h8.put _ _ _ _ _ _ _ _, below_st4 hb o8, h8.ox h⟩
theorem two43_new {w w1 : World} {a0 a1 a2 a3 b0 b1 b2 : Value} {t u : TypeId} (hb : Below ((w.alloc (.cells #[a0, a1, a2, a3] t)).alloc (.cells #[b0, b1, b2] u)).heap.size ((w.alloc (.cells #[a0, a1, a2, a3] t)).alloc (.cells #[b0, b1, b2] u)) w1) :
    Bx4 w1 w.heap.size a0 a1 a2 a3 ∧ Bx3 w1 (w.heap.size + 1) b0 b1 b2 ∧ Below w.heap.size w w1 := by
  have h1 := ((bx4_at w a0 a1 a2 a3 t).alloc (.cells #[b0, b1, b2] u)).below hb
  have h2 := (bx3_at (w.alloc (.cells #[a0, a1, a2, a3] t)) b0 b1 b2 u).below hb
  rw [size_alloc1] at h2
  exact ⟨h1, h2, (below_alloc (below_alloc (Below.refl w.heap.size w) _) _).trans (hb.mono (below_alloc (below_alloc (Below.refl w.heap.size w) _) _).size)⟩

set_option maxRecDepth 100000 in
set_option maxHeartbeats 16000000 in
theorem extMoves_c (i : Int) (s : Bool) (x : Option Addr) (n c : Nat) (f : Nat → Int) (y : Option Addr) (m d : Nat) (g : Nat → Int) (s2 : Bool) (x2 : Option Addr) (n2 c2 : Nat) (f2 : Nat → Int) (y2 : Option Addr) (m2 d2 : Nat) (g2 : Nat → Int) (w : World) (ha : Rw w x n c f y m d g) (hb : Rw w x2 n2 c2 f2 y2 m2 d2 g2) (_htab : Tab w) :
    Calls Tryz.prog 4 #[.agg #[.int .i64 i, .bool s, .slice x n c, .slice y m d], .agg #[.bool s2, .slice x2 n2 c2, .slice y2 m2 d2]] w fun e w' => e = .returned (.bool true) ∧ Below w.heap.size w w' := by
  have HA := hid ha; have HB := hid hb
  have q1 := ha.cx; have q2 := ha.cy; have q3 := hb.cx; have q4 := hb.cy
  clear ha hb
  go_enter Tryz.func4, Tryz.ntmps4
  go_wp2_with fail
  refine (eAwake_c _).mono ?_
  rintro e w1 ⟨rfl, hbel⟩
  obtain ⟨ba, bb, hw⟩ := two43_new hbel
  have BA1 := hid ba; have BB1 := hid bb; have HW1 := hid hw
  clear hbel ba bb hw
  obtain ⟨za, a0, a1, a2, a3⟩ := BA1.out
  go_wp2_with fail
  refine (elight_c (by omega) (by omega) (by omega) (by omega)).mono ?_
  rintro e w1' ⟨rfl, hb⟩
  have BA1' := hid (BA1.out.below hb); have BB1' := hid (BB1.out.below hb); have HW1' := hid (HW1.out.trans (hb.mono HW1.out.size))
  clear BA1 BB1 HW1 hb za a0 a1 a2 a3
  cases hl : (lg n m 20 && lg n m 20)
  · go_wp2
    go_ret
    exact ⟨rfl, HW1'.out⟩
  have hl1 : n ≤ 20 ∧ m ≤ 20 := by
    simp only [lg, Bool.and_eq_true, decide_eq_true_eq] at hl
    exact hl.1
  obtain ⟨l1, l2⟩ := hl1
  clear hl
  obtain ⟨zb, b0, b1, b2⟩ := BB1'.out
  go_wp2_with fail
  refine (rLight_c s2 x2 y2 n2 c2 m2 d2 _ (by omega) (by omega)).mono ?_
  rintro e w2 ⟨rfl, hb⟩
  have BA2 := hid (BA1'.out.below hb); have BB2 := hid (BB1'.out.below hb); have HW2 := hid (HW1'.out.trans (hb.mono HW1'.out.size))
  clear BA1' BB1' HW1' hb zb b0 b1 b2
  cases hl : lg n2 m2 20
  · go_wp2
    go_ret
    exact ⟨rfl, HW2.out⟩
  have hl1 : n2 ≤ 20 ∧ m2 ≤ 20 := by
    simp only [lg, Bool.and_eq_true, decide_eq_true_eq] at hl
    exact hl
  obtain ⟨l3, l4⟩ := hl1
  clear hl
  obtain ⟨p1, hp1⟩ : ∃ p, efB i s f n g m = p := ⟨_, rfl⟩
  obtain ⟨p2, hp2⟩ : ∃ p, rfB s2 f2 n2 g2 m2 = p := ⟨_, rfl⟩
  obtain ⟨q, hq1⟩ : ∃ q, p1 = true → En 100 w2 i s x n c f y m d g q := by
    cases p1
    · exact ⟨0, fun h => by cases h⟩
    · obtain ⟨q, hq⟩ := (HA.out.below HW2.out).en hp1 (L := 100) (by omega) (by omega)
      exact ⟨q, fun _ => hq⟩
  obtain ⟨r, hq2⟩ : ∃ q, p2 = true → Rn 100 w2 s2 x2 n2 c2 f2 y2 m2 d2 g2 q := by
    cases p2
    · exact ⟨0, fun h => by cases h⟩
    · obtain ⟨q, hq⟩ := (HB.out.below HW2.out).rn hp2 (L := 100) (by omega) (by omega)
      exact ⟨q, fun _ => hq⟩
  have HP1 := hid hp1; have HP2 := hid hp2; have HQ1 := hid hq1; have HQ2 := hid hq2
  clear hp1 hp2 hq1 hq2
  have RA2 := hid (HA.out.below HW2.out); have RB2 := hid (HB.out.below HW2.out)
  have hz2 : w.heap.size + 1 < w2.heap.size := BB2.out.z
  have TA : Hid (∀ W, Below w2.heap.size w2 W → Calls Tryz.prog 11 #[.agg #[.int .i64 i, .bool s, .slice x n c, .slice y m d]] W fun e w' => ∃ z c' z2 c2, e = .returned (.agg #[.int .i64 i, .bool s, .slice z n c', .slice z2 m c2]) ∧ Below W.heap.size W w' ∧ Hid (Rw w' z n c' f z2 m c2 g)) := fun W hW => xTwin_c (RA2.out.below hW) (by omega) (by omega)
  have TB : Hid (∀ W, Below w2.heap.size w2 W → Calls Tryz.prog 22 #[.agg #[.bool s2, .slice x2 n2 c2, .slice y2 m2 d2]] W fun e w' => ∃ z c' z2 c2, e = .returned (.agg #[.bool s2, .slice z n2 c', .slice z2 m2 c2]) ∧ Below W.heap.size W w' ∧ Hid (Rw w' z n2 c' f2 z2 m2 c2 g2)) := fun W hW => qTwin_c (RB2.out.below hW) (by omega) (by omega)
  have CShift : Hid (∀ (W : World) (x : Option Addr) (c : Nat) (y : Option Addr) (d : Nat) (x' : Option Addr) (c' : Nat) (y' : Option Addr) (d' : Nat), Rw W x n c f y m d g → Rw W x' n2 c' f2 y' m2 d' g2 → Calls Tryz.prog 26 #[.agg #[.int .i64 i, .bool s, .slice x n c, .slice y m d], .agg #[.bool s2, .slice x' n2 c', .slice y' m2 d']] W fun e w' => ∃ ii s x nn c f y mm d g er, e = .returned (.tuple #[.agg #[.int .i64 ii, .bool s, .slice x nn c, .slice y mm d], .int .i64 er]) ∧ Below W.heap.size W w' ∧ Hid (OX (kx (p1 && p2)) (PShift i q r) w' ii s x nn c f y mm d g er)) := fun W x c y d x' c' y' d' h1 h2 => eShift_g h1 h2 (by omega) (by omega) (by omega) (by omega) HP1.out HP2.out (fun h => (HQ1.out h).moved h1) (fun h => (HQ2.out h).moved h2)
  have CScale : Hid (∀ (W : World) (x : Option Addr) (c : Nat) (y : Option Addr) (d : Nat) (x' : Option Addr) (c' : Nat) (y' : Option Addr) (d' : Nat), Rw W x n c f y m d g → Rw W x' n2 c' f2 y' m2 d' g2 → Calls Tryz.prog 28 #[.agg #[.int .i64 i, .bool s, .slice x n c, .slice y m d], .agg #[.bool s2, .slice x' n2 c', .slice y' m2 d']] W fun e w' => ∃ ii s x nn c f y mm d g er, e = .returned (.tuple #[.agg #[.int .i64 ii, .bool s, .slice x nn c, .slice y mm d], .int .i64 er]) ∧ Below W.heap.size W w' ∧ Hid (OX (ks (p1 && p2) n2) (PScale i q r s2) w' ii s x nn c f y mm d g er)) := fun W x c y d x' c' y' d' h1 h2 => eScale_g h1 h2 (by omega) (by omega) (by omega) (by omega) HP1.out HP2.out (fun h => (HQ1.out h).moved h1) (fun h => (HQ2.out h).moved h2)
  obtain ⟨zb, b0, b1, b2⟩ := BB2.out
  go_wp2_with fail
  refine (TB.out _ (Below.refl _ _)).mono ?_
  rintro e w3 ⟨x3, c3, y3, d3, rfl, hb, H3⟩
  have HB3 := hid hb
  clear hb zb b0 b1 b2
  go_wp2_with fail
  refine (eOf_g H3.out (by omega) (by omega) HP2.out (fun h => (HQ2.out h).moved H3.out)).mono ?_
  rintro e w4 ⟨ei, es, ex, en, ec, ef, ey, em, ed, eg, ee, rfl, hb, H4⟩
  have HB4 := hid (below_alloc (HB3.out.trans (hb.mono HB3.out.size)) (.cells #[.int .i64 ei, .bool es, .slice ex en ec, .slice ey em ed] 26)); have X4 := hid (wb_at w4 ei es ex en ec ey em ed 26); have O4 := hid (H4.out.alloc (.cells #[.int .i64 ei, .bool es, .slice ex en ec, .slice ey em ed] 26))
  have hle5 : w2.heap.size ≤ w4.heap.size := (HB3.out.trans (hb.mono HB3.out.size)).size
  clear hb H3 H4
  go_upto_region 6 with fail
  generalize w4.alloc (.cells #[.int .i64 ei, .bool es, .slice ex en ec, .slice ey em ed] 26) = w5 at *
  generalize w4.heap.size = b5 at *
  obtain ⟨zb, b0, b1, b2⟩ := BB2.out.below HB4.out
  go_wp2_with fail
  refine (docOfX_g (RB2.out.below HB4.out) (by omega) (by omega) HP2.out (fun h => (HQ2.out h).below HB4.out)).mono ?_
  rintro e w6 ⟨nni, nns, nnx, nnn, nnc, nnf, nny, nnm, nnd, nng, nne, rfl, hb, H6⟩
  have her : nne = ee := H6.out.1.trans O4.out.1.symm
  subst her
  have HB6 := hid (below_alloc (HB4.out.trans (hb.mono HB4.out.size)) (.cells #[.int .i64 nni, .bool nns, .slice nnx nnn nnc, .slice nny nnm nnd] 26)); have X5 := hid ((X4.out.below hb).alloc (.cells #[.int .i64 nni, .bool nns, .slice nnx nnn nnc, .slice nny nnm nnd] 26)); have X7 := hid (wb_at w6 nni nns nnx nnn nnc nny nnm nnd 26); have O5 := hid ((O4.out.below hb).alloc (.cells #[.int .i64 nni, .bool nns, .slice nnx nnn nnc, .slice nny nnm nnd] 26)); have O7 := hid (H6.out.alloc (.cells #[.int .i64 nni, .bool nns, .slice nnx nnn nnc, .slice nny nnm nnd] 26))
  have hle7 : w2.heap.size ≤ w6.heap.size := (HB4.out.trans (hb.mono HB4.out.size)).size
  have hlt5 := (X4.out.below hb).bx.z
  clear hb H6 zb b0 b1 b2 X4 O4
  go_upto_region 7 with fail
  generalize w6.alloc (.cells #[.int .i64 nni, .bool nns, .slice nnx nnn nnc, .slice nny nnm nnd] 26) = w7 at *
  generalize w6.heap.size = b7 at *
  have hne : b5 ≠ b7 := by omega
  obtain ⟨zp, pp0, pp1, pp2, pp3⟩ := X5.out.bx
  obtain ⟨zr, rr0, rr1, rr2, rr3⟩ := X7.out.bx
  go_wp2_with fail
  refine (lsame_c (fun W hW => ox_same (fun i q i' q' => POf.uniq) (O5.out.below hW) (O7.out.below hW))).mono ?_
  rintro e w8 ⟨rfl, hb⟩
  have HB8 := hid (HB6.out.trans (hb.mono HB6.out.size)); have Y5 := hid (X5.out.below hb); have Y7 := hid (X7.out.below hb)
  clear hb zp pp0 pp1 pp2 pp3 zr rr0 rr1 rr2 rr3 X5 X7 O5 O7 HB6 HB4 HB3
  obtain ⟨za, a0, a1, a2, a3⟩ := BA2.out.below HB8.out
  go_wp2_with fail
  refine (TA.out _ HB8.out).mono ?_
  rintro e w9 ⟨x9, c9, y9, d9, rfl, hb, H9⟩
  have HB9 := hid (HB8.out.trans (hb.mono HB8.out.size)); have Z5 := hid (Y5.out.below hb); have Z7 := hid (Y7.out.below hb)
  clear hb za a0 a1 a2 a3 Y5 Y7
  go_wp2_with fail
  refine (eNeg_g H9.out (by omega) (by omega) HP1.out (fun h => (HQ1.out h).moved H9.out)).mono ?_
  rintro e w10 ⟨ti, ts, tx, tn, tc, tf, ty, tm, td, tg, te, rfl, hb, H10⟩
  have A5 := hid (Z5.out.below hb); have A7 := hid (Z7.out.below hb); have HB10 := hid (HB9.out.trans (hb.mono HB9.out.size))
  clear hb Z5 Z7 H9
  obtain ⟨⟨zp, pp0, pp1, pp2, pp3⟩, pf⟩ := A5.out
  go_upto_region 10 with fail
  have N5 := hid (A5.out.put ti ts tx tn tc ty tm td); have N7 := hid (A7.out.far4 (u0 := .int .i64 ti) (u1 := .bool ts) (u2 := .slice tx tn tc) (u3 := .slice ty tm td) hne); have O5 := hid (A5.out.ox (u0 := .int .i64 ti) (u1 := .bool ts) (u2 := .slice tx tn tc) (u3 := .slice ty tm td) H10.out); have HB11 := hid (below_st4 (u0 := .int .i64 ti) (u1 := .bool ts) (u2 := .slice tx tn tc) (u3 := .slice ty tm td) HB10.out hle5)
  clear zp pp0 pp1 pp2 pp3 pf A5 A7 H10 HB10 HB9 HB8
  generalize (((w10.setCell ⟨b5, 0, none⟩ (.int .i64 ti)).setCell ⟨b5, 1, none⟩ (.bool ts)).setCell ⟨b5, 2, none⟩ (.slice tx tn tc)).setCell ⟨b5, 3, none⟩ (.slice ty tm td) = w11 at *
  obtain ⟨za, a0, a1, a2, a3⟩ := BA2.out.below HB11.out
  go_wp2_with fail
  refine (docNegX_g (RA2.out.below HB11.out) (by omega) (by omega) HP1.out (fun h => (HQ1.out h).below HB11.out)).mono ?_
  rintro e w12 ⟨ui, us, ux, un, uc, uf, uy, um, ud, ug, ue, rfl, hb, H12⟩
  have her : ue = te := H12.out.1.trans O5.out.1.symm
  subst her
  have A5 := hid (N5.out.below hb); have A7 := hid (N7.out.below hb); have P5 := hid (O5.out.below hb); have HB12 := hid (HB11.out.trans (hb.mono HB11.out.size))
  clear hb za a0 a1 a2 a3 N5 N7 O5
  obtain ⟨⟨zp, pp0, pp1, pp2, pp3⟩, pf⟩ := A7.out
  go_upto_region 11 with fail
  have N5 := hid (A5.out.far4 (u0 := .int .i64 ui) (u1 := .bool us) (u2 := .slice ux un uc) (u3 := .slice uy um ud) hne.symm); have N7 := hid (A7.out.put ui us ux un uc uy um ud); have O5 := hid (A7.out.ox (u0 := .int .i64 ui) (u1 := .bool us) (u2 := .slice ux un uc) (u3 := .slice uy um ud) P5.out); have O7 := hid (A7.out.ox (u0 := .int .i64 ui) (u1 := .bool us) (u2 := .slice ux un uc) (u3 := .slice uy um ud) H12.out); have HB13 := hid (below_st4 (u0 := .int .i64 ui) (u1 := .bool us) (u2 := .slice ux un uc) (u3 := .slice uy um ud) HB12.out hle7)
  clear zp pp0 pp1 pp2 pp3 pf A5 A7 P5 H12 HB12 HB11
  generalize (((w12.setCell ⟨b7, 0, none⟩ (.int .i64 ui)).setCell ⟨b7, 1, none⟩ (.bool us)).setCell ⟨b7, 2, none⟩ (.slice ux un uc)).setCell ⟨b7, 3, none⟩ (.slice uy um ud) = w13 at *
  obtain ⟨zp, pp0, pp1, pp2, pp3⟩ := N5.out.bx
  obtain ⟨zr, rr0, rr1, rr2, rr3⟩ := N7.out.bx
  go_wp2_with fail
  refine (lsame_c (fun W hW => ox_same (fun i q i' q' => PNeg.uniq) (O5.out.below hW) (O7.out.below hW))).mono ?_
  rintro e w14 ⟨rfl, hb⟩
  have HB14 := hid (HB13.out.trans (hb.mono HB13.out.size)); have Y5 := hid (N5.out.below hb); have Y7 := hid (N7.out.below hb)
  clear hb zp pp0 pp1 pp2 pp3 zr rr0 rr1 rr2 rr3 N5 N7 O5 O7 HB13
  go_upto_region 13 with fail
  go_cut [6] from 54 to 61 (fun t wx => ∃ (wy : World) (i_ : Int) (s_ : Bool) (x_ : Option Addr) (n_ c_ : Nat) (f_ : Nat → Int) (y_ : Option Addr) (m_ d_ : Nat) (g_ : Nat → Int) (er : Int), wy = wx ∧ t = .int .i64 er ∧ MAt (kx (p1 && p2)) (PShift i q r) w2 wy b5 i_ s_ x_ n_ c_ f_ y_ m_ d_ g_ er ∧ Wb wy b7 ui us ux un uc uy um ud)
  case first =>
    have hrb := HB14.out
    have hzz := HB14.out.size
    obtain ⟨za, a0, a1, a2, a3⟩ := BA2.out.below HB14.out
    obtain ⟨zb, b0, b1, b2⟩ := BB2.out.below HB14.out
    obtain ⟨zp, p0, p1', p2', p3⟩ := Y5.out.bx
    have pf := Y5.out.fr
    go_region_held3 (fun w' => w'.cell? ⟨w.heap.size, 0, none⟩ = some (.int .i64 i) ∧ w'.cell? ⟨w.heap.size, 1, none⟩ = some (.bool s) ∧ w'.cell? ⟨w.heap.size, 2, none⟩ = some (.slice x n c) ∧ w'.cell? ⟨w.heap.size, 3, none⟩ = some (.slice y m d) ∧ w'.cell? ⟨w.heap.size + 1, 0, none⟩ = some (.bool s2) ∧ w'.cell? ⟨w.heap.size + 1, 1, none⟩ = some (.slice x2 n2 c2) ∧ w'.cell? ⟨w.heap.size + 1, 2, none⟩ = some (.slice y2 m2 d2) ∧ (w'.cell? ⟨b5, 0, none⟩).isSome = true ∧ (w'.cell? ⟨b5, 1, none⟩).isSome = true ∧ (w'.cell? ⟨b5, 2, none⟩).isSome = true ∧ (w'.cell? ⟨b5, 3, none⟩).isSome = true ∧ w'.frozen? ⟨b5, 0, none⟩ = false ∧ w'.frozen? ⟨b5, 1, none⟩ = false ∧ w'.frozen? ⟨b5, 2, none⟩ = false ∧ w'.frozen? ⟨b5, 3, none⟩ = false)
      (refine ⟨?_, ?_, ?_, ?_, ?_, ?_, ?_, ?_, ?_, ?_, ?_, ?_, ?_, ?_, ?_⟩ <;> repeat (with_reducible first | assumption | exact pf _ | exact tf _ | exact uf _ | exact vf' _ | exact kI0 p0 | exact kI0 p1' | exact kI0 p2' | exact kI0 p3 | exact kI0 t0 | exact kI0 t1 | exact kI0 t2 | exact kI0 t3 | exact kI0 u0 | exact kI0 u1 | exact kI0 u2 | exact kI0 u3 | exact kI0 v0 | exact kI0 v1 | exact kI0 v2 | exact kI0 v3 | refine kCd ?_ | refine kId ?_ | refine kFd ?_ | refine kCs (by simp only [ne_eq]; omega) ?_ | refine kIs ?_ | refine kFs ?_ | refine kCb (by assumption) ?_ | refine kIb (by assumption) ?_))
      (first
        | (go_at_call 11; with_reducible refine (TA.out _ (by repeat (with_reducible first | assumption | exact Below.refl _ _ | refine Below.drew ?_ | refine kBa ?_ | refine kBb (by assumption) ?_))).mono ?_; rintro e v5 ⟨x5, c5, y5, d5, rfl, hb5, H5⟩; have hz5 := hb5.size; have Tt : Wb v5 b5 ti ts tx tn tc ty tm td := (by repeat (with_reducible first | exact Y5.out | exact Tt | exact Tu | exact Tv | refine kWbd ?_ | refine kWbb (by assumption) ?_)); obtain ⟨⟨_, t0, t1, t2, t3⟩, tf⟩ := id Tt)
        | (go_at_call 22; with_reducible refine (TB.out _ (by repeat (with_reducible first | assumption | exact Below.refl _ _ | refine Below.drew ?_ | refine kBa ?_ | refine kBb (by assumption) ?_))).mono ?_; rintro e v6 ⟨x6, c6, y6, d6, rfl, hb6, H6⟩; have hz6 := hb6.size; have Tu : Wb v6 b5 ti ts tx tn tc ty tm td := (by repeat (with_reducible first | exact Y5.out | exact Tt | exact Tu | exact Tv | refine kWbd ?_ | refine kWbb (by assumption) ?_)); obtain ⟨⟨_, u0, u1, u2, u3⟩, uf⟩ := id Tu)
        | (go_at_call 26; with_reducible refine (CShift.out _ x5 c5 y5 d5 x6 c6 y6 d6 (by repeat (with_reducible first | exact H5.out | refine kRwd ?_ | refine kRwa ?_ | refine kRwb (by assumption) ?_)) (by repeat (with_reducible first | exact H6.out | refine kRwd ?_ | refine kRwa ?_ | refine kRwb (by assumption) ?_))).mono ?_; rintro e v7 ⟨i7, s7, x7, n7, c7, f7, y7, m7, d7, g7, er7, rfl, hb7, H7⟩; have hz7 := hb7.size; have Tv : Wb v7 b5 ti ts tx tn tc ty tm td := (by repeat (with_reducible first | exact Y5.out | exact Tt | exact Tu | exact Tv | refine kWbd ?_ | refine kWbb (by assumption) ?_)); obtain ⟨⟨_, v0, v1, v2, v3⟩, vf'⟩ := id Tv))
    all_goals
      go_wp2_with fail
      go_meet
      have h10 : Wb v7 b7 ui us ux un uc uy um ud := (by repeat (with_reducible first | exact Y7.out | refine kWbd ?_ | refine kWbb (by assumption) ?_))
      have hbl : Below w2.heap.size w2 v7 := (by repeat (with_reducible first | assumption | exact Below.refl _ _ | refine Below.drew ?_ | refine kBa ?_ | refine kBb (by assumption) ?_))
      exact ⟨_, i7, s7, x7, n7, c7, f7, y7, m7, d7, g7, er7, rfl, rfl, mat_w hbl H7.out Tv hle5, h10.far4 hne⟩
  case rest =>
    obtain ⟨w20, oi, os, ox, on, oc, of, oy, om, od, og, oe, rfl, rfl, hM, hX⟩ := hcut
    have M20 := hid hM; have X20 := hid hX
    clear hM hX Y5 Y7 HB14
    obtain ⟨za, a0, a1, a2, a3⟩ := BA2.out.below M20.out.bel
    obtain ⟨zb, b0, b1, b2⟩ := BB2.out.below M20.out.bel
    go_wp2_with fail
    refine (docShiftX_g (RA2.out.below M20.out.bel) (RB2.out.below M20.out.bel) (by omega) (by omega) (by omega) (by omega) HP1.out HP2.out (fun h => (HQ1.out h).below M20.out.bel) (fun h => (HQ2.out h).below M20.out.bel)).mono ?_
    rintro e w21 ⟨vi, vs, vx, vn, vc, vf, vy, vm, vd, vg, ve, rfl, hb, H21⟩
    have her : ve = oe := H21.out.1.trans M20.out.ox.1.symm
    subst her
    have A5 := hid (M20.out.wb.below hb); have A7 := hid (X20.out.below hb); have P5 := hid (M20.out.ox.below hb); have HB21 := hid (M20.out.bel.trans (hb.mono M20.out.bel.size))
    clear hb za a0 a1 a2 a3 zb b0 b1 b2 M20 X20
    obtain ⟨⟨zp, pp0, pp1, pp2, pp3⟩, pf⟩ := A7.out
    go_upto_region 15 with fail
    have N5 := hid (A5.out.far4 (u0 := .int .i64 vi) (u1 := .bool vs) (u2 := .slice vx vn vc) (u3 := .slice vy vm vd) hne.symm); have N7 := hid (A7.out.put vi vs vx vn vc vy vm vd); have O5 := hid (A7.out.ox (u0 := .int .i64 vi) (u1 := .bool vs) (u2 := .slice vx vn vc) (u3 := .slice vy vm vd) P5.out); have O7 := hid (A7.out.ox (u0 := .int .i64 vi) (u1 := .bool vs) (u2 := .slice vx vn vc) (u3 := .slice vy vm vd) H21.out); have HB22 := hid (below_st4 (u0 := .int .i64 vi) (u1 := .bool vs) (u2 := .slice vx vn vc) (u3 := .slice vy vm vd) HB21.out hle7)
    clear zp pp0 pp1 pp2 pp3 pf A5 A7 P5 H21 HB21
    generalize (((w21.setCell ⟨b7, 0, none⟩ (.int .i64 vi)).setCell ⟨b7, 1, none⟩ (.bool vs)).setCell ⟨b7, 2, none⟩ (.slice vx vn vc)).setCell ⟨b7, 3, none⟩ (.slice vy vm vd) = w22 at *
    obtain ⟨zp, pp0, pp1, pp2, pp3⟩ := N5.out.bx
    obtain ⟨zr, rr0, rr1, rr2, rr3⟩ := N7.out.bx
    go_wp2_with fail
    refine (lsame_c (fun W hW => ox_same (fun i q i' q' => PShift.uniq) (O5.out.below hW) (O7.out.below hW))).mono ?_
    rintro e w23 ⟨rfl, hb⟩
    have HB24 := hid (HB22.out.trans (hb.mono HB22.out.size)); have Y5 := hid (N5.out.below hb); have Y7 := hid (N7.out.below hb)
    clear hb zp pp0 pp1 pp2 pp3 zr rr0 rr1 rr2 rr3 N5 N7 O5 O7 HB22
    go_upto_region 17 with fail
    go_cut [6] from 74 to 81 (fun t wx => ∃ (wy : World) (i_ : Int) (s_ : Bool) (x_ : Option Addr) (n_ c_ : Nat) (f_ : Nat → Int) (y_ : Option Addr) (m_ d_ : Nat) (g_ : Nat → Int) (er : Int), wy = wx ∧ t = .int .i64 er ∧ MAt (ks (p1 && p2) n2) (PScale i q r s2) w2 wy b5 i_ s_ x_ n_ c_ f_ y_ m_ d_ g_ er ∧ Wb wy b7 vi vs vx vn vc vy vm vd)
    case first =>
      have hrb := HB24.out
      have hzz := HB24.out.size
      obtain ⟨za, a0, a1, a2, a3⟩ := BA2.out.below HB24.out
      obtain ⟨zb, b0, b1, b2⟩ := BB2.out.below HB24.out
      obtain ⟨zp, p0, p1', p2', p3⟩ := Y5.out.bx
      have pf := Y5.out.fr
      go_region_held3 (fun w' => w'.cell? ⟨w.heap.size, 0, none⟩ = some (.int .i64 i) ∧ w'.cell? ⟨w.heap.size, 1, none⟩ = some (.bool s) ∧ w'.cell? ⟨w.heap.size, 2, none⟩ = some (.slice x n c) ∧ w'.cell? ⟨w.heap.size, 3, none⟩ = some (.slice y m d) ∧ w'.cell? ⟨w.heap.size + 1, 0, none⟩ = some (.bool s2) ∧ w'.cell? ⟨w.heap.size + 1, 1, none⟩ = some (.slice x2 n2 c2) ∧ w'.cell? ⟨w.heap.size + 1, 2, none⟩ = some (.slice y2 m2 d2) ∧ (w'.cell? ⟨b5, 0, none⟩).isSome = true ∧ (w'.cell? ⟨b5, 1, none⟩).isSome = true ∧ (w'.cell? ⟨b5, 2, none⟩).isSome = true ∧ (w'.cell? ⟨b5, 3, none⟩).isSome = true ∧ w'.frozen? ⟨b5, 0, none⟩ = false ∧ w'.frozen? ⟨b5, 1, none⟩ = false ∧ w'.frozen? ⟨b5, 2, none⟩ = false ∧ w'.frozen? ⟨b5, 3, none⟩ = false)
        (refine ⟨?_, ?_, ?_, ?_, ?_, ?_, ?_, ?_, ?_, ?_, ?_, ?_, ?_, ?_, ?_⟩ <;> repeat (with_reducible first | assumption | exact pf _ | exact tf _ | exact uf _ | exact vf' _ | exact kI0 p0 | exact kI0 p1' | exact kI0 p2' | exact kI0 p3 | exact kI0 t0 | exact kI0 t1 | exact kI0 t2 | exact kI0 t3 | exact kI0 u0 | exact kI0 u1 | exact kI0 u2 | exact kI0 u3 | exact kI0 v0 | exact kI0 v1 | exact kI0 v2 | exact kI0 v3 | refine kCd ?_ | refine kId ?_ | refine kFd ?_ | refine kCs (by simp only [ne_eq]; omega) ?_ | refine kIs ?_ | refine kFs ?_ | refine kCb (by assumption) ?_ | refine kIb (by assumption) ?_))
        (first
          | (go_at_call 11; with_reducible refine (TA.out _ (by repeat (with_reducible first | assumption | exact Below.refl _ _ | refine Below.drew ?_ | refine kBa ?_ | refine kBb (by assumption) ?_))).mono ?_; rintro e v5 ⟨x5, c5, y5, d5, rfl, hb5, H5⟩; have hz5 := hb5.size; have Tt : Wb v5 b5 oi os ox on oc oy om od := (by repeat (with_reducible first | exact Y5.out | exact Tt | exact Tu | exact Tv | refine kWbd ?_ | refine kWbb (by assumption) ?_)); obtain ⟨⟨_, t0, t1, t2, t3⟩, tf⟩ := id Tt)
          | (go_at_call 22; with_reducible refine (TB.out _ (by repeat (with_reducible first | assumption | exact Below.refl _ _ | refine Below.drew ?_ | refine kBa ?_ | refine kBb (by assumption) ?_))).mono ?_; rintro e v6 ⟨x6, c6, y6, d6, rfl, hb6, H6⟩; have hz6 := hb6.size; have Tu : Wb v6 b5 oi os ox on oc oy om od := (by repeat (with_reducible first | exact Y5.out | exact Tt | exact Tu | exact Tv | refine kWbd ?_ | refine kWbb (by assumption) ?_)); obtain ⟨⟨_, u0, u1, u2, u3⟩, uf⟩ := id Tu)
          | (go_at_call 28; with_reducible refine (CScale.out _ x5 c5 y5 d5 x6 c6 y6 d6 (by repeat (with_reducible first | exact H5.out | refine kRwd ?_ | refine kRwa ?_ | refine kRwb (by assumption) ?_)) (by repeat (with_reducible first | exact H6.out | refine kRwd ?_ | refine kRwa ?_ | refine kRwb (by assumption) ?_))).mono ?_; rintro e v7 ⟨i7, s7, x7, n7, c7, f7, y7, m7, d7, g7, er7, rfl, hb7, H7⟩; have hz7 := hb7.size; have Tv : Wb v7 b5 oi os ox on oc oy om od := (by repeat (with_reducible first | exact Y5.out | exact Tt | exact Tu | exact Tv | refine kWbd ?_ | refine kWbb (by assumption) ?_)); obtain ⟨⟨_, v0, v1, v2, v3⟩, vf'⟩ := id Tv))
      all_goals
        go_wp2_with fail
        go_meet
        have h10 : Wb v7 b7 vi vs vx vn vc vy vm vd := (by repeat (with_reducible first | exact Y7.out | refine kWbd ?_ | refine kWbb (by assumption) ?_))
        have hbl : Below w2.heap.size w2 v7 := (by repeat (with_reducible first | assumption | exact Below.refl _ _ | refine Below.drew ?_ | refine kBa ?_ | refine kBb (by assumption) ?_))
        exact ⟨_, i7, s7, x7, n7, c7, f7, y7, m7, d7, g7, er7, rfl, rfl, mat_w hbl H7.out Tv hle5, h10.far4 hne⟩
    case rest =>
      obtain ⟨w20, ji, js, jx, jn, jc, jf, jy, jm, jd, jg, je, rfl, rfl, hM, hX⟩ := hcut
      have M20 := hid hM; have X20 := hid hX
      clear hM hX Y5 Y7 HB24
      obtain ⟨za, a0, a1, a2, a3⟩ := BA2.out.below M20.out.bel
      obtain ⟨zb, b0, b1, b2⟩ := BB2.out.below M20.out.bel
      go_wp2_with fail
      refine (docScaleX_g (RA2.out.below M20.out.bel) (RB2.out.below M20.out.bel) (by omega) (by omega) (by omega) (by omega) HP1.out HP2.out (fun h => (HQ1.out h).below M20.out.bel) (fun h => (HQ2.out h).below M20.out.bel)).mono ?_
      rintro e w21 ⟨zi, zs, zx, zn, zc, zf, zy, zm, zd, zg, ze, rfl, hb, H21⟩
      have her : ze = je := H21.out.1.trans M20.out.ox.1.symm
      subst her
      have A5 := hid (M20.out.wb.below hb); have A7 := hid (X20.out.below hb); have P5 := hid (M20.out.ox.below hb); have HB21 := hid (M20.out.bel.trans (hb.mono M20.out.bel.size))
      clear hb za a0 a1 a2 a3 zb b0 b1 b2 M20 X20
      obtain ⟨⟨zp, pp0, pp1, pp2, pp3⟩, pf⟩ := A7.out
      go_upto_region 19 with fail
      have N5 := hid (A5.out.far4 (u0 := .int .i64 zi) (u1 := .bool zs) (u2 := .slice zx zn zc) (u3 := .slice zy zm zd) hne.symm); have N7 := hid (A7.out.put zi zs zx zn zc zy zm zd); have O5 := hid (A7.out.ox (u0 := .int .i64 zi) (u1 := .bool zs) (u2 := .slice zx zn zc) (u3 := .slice zy zm zd) P5.out); have O7 := hid (A7.out.ox (u0 := .int .i64 zi) (u1 := .bool zs) (u2 := .slice zx zn zc) (u3 := .slice zy zm zd) H21.out); have HB22 := hid (below_st4 (u0 := .int .i64 zi) (u1 := .bool zs) (u2 := .slice zx zn zc) (u3 := .slice zy zm zd) HB21.out hle7)
      clear zp pp0 pp1 pp2 pp3 pf A5 A7 P5 H21 HB21
      generalize (((w21.setCell ⟨b7, 0, none⟩ (.int .i64 zi)).setCell ⟨b7, 1, none⟩ (.bool zs)).setCell ⟨b7, 2, none⟩ (.slice zx zn zc)).setCell ⟨b7, 3, none⟩ (.slice zy zm zd) = w22 at *
      obtain ⟨zp, pp0, pp1, pp2, pp3⟩ := N5.out.bx
      obtain ⟨zr, rr0, rr1, rr2, rr3⟩ := N7.out.bx
      go_wp2_with fail
      refine (lsame_c (fun W hW => ox_same (fun i q i' q' => PScale.uniq) (O5.out.below hW) (O7.out.below hW))).mono ?_
      rintro e w23 ⟨rfl, hb⟩
      have HB23 := hid (HW2.out.trans ((HB22.out.trans (hb.mono HB22.out.size)).mono HW2.out.size))
      clear hb zp pp0 pp1 pp2 pp3 zr rr0 rr1 rr2 rr3
      go_wp2
      go_ret
      exact ⟨rfl, HB23.out⟩
end Go.Proofs.YtbindadjepfkcaaGreatDoor

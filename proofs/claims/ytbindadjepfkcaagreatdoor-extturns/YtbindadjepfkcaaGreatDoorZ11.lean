/-
  Walks of the document's DocCmp, DocMax, DocMin of bounds, whatever they are handed; of the statements' same, light, num. Walks of ext: number, Scale of minus infinity by a number below 0, Text of infinity; of the statements' own look at answers that the document fixes (awake). Walks of ext: Of, Neg, Shift, Scale, whatever they are handed. The order of bounds goes along with shifts and scales (for ExtTurns). How long the numbers that ext's calls answer are (for ExtTurns).
-/
import Derived.Test.YtbindadjepfkcaaGreatDoorZ10
namespace Go.Proofs.YtbindadjepfkcaaGreatDoor
open Go.RowKit

set_option maxRecDepth 100000 in
set_option maxHeartbeats 4000000 in
theorem docCmpX_g {w : World} {i1 : Int} {s1 : Bool} {x1 : Option Addr} {n1 c1 : Nat} {f1 : Nat → Int} {y1 : Option Addr} {m1 d1 : Nat} {g1 : Nat → Int} {i2 : Int} {s2 : Bool} {x2 : Option Addr} {n2 c2 : Nat} {f2 : Nat → Int} {y2 : Option Addr} {m2 d2 : Nat} {g2 : Nat → Int} {qa qb : Rat} {p1 p2 : Bool} (h1 : Rw w x1 n1 c1 f1 y1 m1 d1 g1) (h2 : Rw w x2 n2 c2 f2 y2 m2 d2 g2) (hn1 : n1 ≤ 100) (hm1 : m1 ≤ 100) (hn2 : n2 ≤ 100) (hm2 : m2 ≤ 100) (hp1 : efB i1 s1 f1 n1 g1 m1 = p1) (hp2 : efB i2 s2 f2 n2 g2 m2 = p2) (hq1 : p1 = true → En 100 w i1 s1 x1 n1 c1 f1 y1 m1 d1 g1 qa) (hq2 : p2 = true → En 100 w i2 s2 x2 n2 c2 f2 y2 m2 d2 g2 qb) :
    Calls Tryz.prog 12 #[.agg #[.int .i64 i1, .bool s1, .slice x1 n1 c1, .slice y1 m1 d1], .agg #[.int .i64 i2, .bool s2, .slice x2 n2 c2, .slice y2 m2 d2]] w fun e w' => ∃ r er, e = .returned (.tuple #[.int .i64 r, .int .i64 er]) ∧ Below w.heap.size w w' ∧ Hid (OC (p1 && p2) i1 qa i2 qb r er) := by
  have HP1 := hid hp1; have HP2 := hid hp2
  have k1 := (bx4_at w (.int .i64 i1) (.bool s1) (.slice x1 n1 c1) (.slice y1 m1 d1) 26).alloc (.cells #[.int .i64 i2, .bool s2, .slice x2 n2 c2, .slice y2 m2 d2] 26)
  have k2 := bx4_at (w.alloc (.cells #[.int .i64 i1, .bool s1, .slice x1 n1 c1, .slice y1 m1 d1] 26)) (.int .i64 i2) (.bool s2) (.slice x2 n2 c2) (.slice y2 m2 d2) 26
  rw [size_alloc1] at k2
  have k3 := below_alloc (below_alloc (Below.refl w.heap.size w) (.cells #[.int .i64 i1, .bool s1, .slice x1 n1 c1, .slice y1 m1 d1] 26)) (.cells #[.int .i64 i2, .bool s2, .slice x2 n2 c2, .slice y2 m2 d2] 26)
  have HQ1 := hid (fun h => (hq1 h).below k3); have HQ2 := hid (fun h => (hq2 h).below k3); have HR1 := hid (h1.below k3); have HR2 := hid (h2.below k3)
  clear hp1 hp2 hq1 hq2 h1 h2
  go_enter Tryz.func12, Tryz.ntmps12
  go_upto_region 1 with fail
  generalize (w.alloc (.cells #[.int .i64 i1, .bool s1, .slice x1 n1 c1, .slice y1 m1 d1] 26)).alloc (.cells #[.int .i64 i2, .bool s2, .slice x2 n2 c2, .slice y2 m2 d2] 26) = w1 at *
  have HW := hid k3; have BA := hid k1; have BB := hid k2
  clear k1 k2 k3
  have c1 := xForm_c (i := i1) (s := s1) HR1.out (by omega) (by omega)
  rw [HP1.out] at c1
  have C1 := hid c1
  have c2 := fun W hW => xForm_c (i := i2) (s := s2) (HR2.out.below (w' := W) hW) (by omega) (by omega)
  rw [HP2.out] at c2
  have C2 := hid c2
  clear c1 c2
  obtain ⟨za, a0, a1, a2, a3⟩ := BA.out
  go_wp2_with fail
  refine C1.out.mono ?_
  rintro e w2 ⟨rfl, hb⟩
  have HB1 := hid hb
  clear hb za a0 a1 a2 a3
  cases p1
  · have HB := hid (HW.out.trans (HB1.out.mono HW.out.size))
    go_wp2
    go_ret2
    exact ⟨0, 3, rfl, HB.out, .inl ⟨rfl, rfl, rfl⟩⟩
  obtain ⟨zb, b0, b1, b2, b3⟩ := BB.out.below HB1.out
  go_wp2_with fail
  refine (C2.out _ HB1.out).mono ?_
  rintro e w3 ⟨rfl, hb⟩
  have HB3 := hid (HB1.out.trans (hb.mono HB1.out.size))
  clear hb zb b0 b1 b2 b3
  cases p2
  · have HB := hid (HW.out.trans (HB3.out.mono HW.out.size))
    go_wp2
    go_ret2
    exact ⟨0, 3, rfl, HB.out, .inl ⟨rfl, rfl, rfl⟩⟩
  have E1 := hid ((HQ1.out (by simp)).below HB3.out); have E2 := hid ((HQ2.out (by simp)).below HB3.out)
  have HB := hid (HW.out.trans (HB3.out.mono HW.out.size))
  obtain ⟨za, a0, a1, a2, a3⟩ := BA.out.below HB3.out
  obtain ⟨zb, b0, b1, b2, b3⟩ := BB.out.below HB3.out
  have CF1 : Hid (∀ W, Below w3.heap.size w3 W → Calls Tryz.prog 49 #[.agg #[.int .i64 i1, .bool s1, .slice x1 n1 c1, .slice y1 m1 d1]] W fun e w' => ∃ s x n c d y m c' g, e = .returned (.agg #[.int .i64 i1, .bool s, .slice x n c, .slice y m c']) ∧ Below W.heap.size W w' ∧ Hid (n ≤ 200 ∧ m ≤ 200 ∧ Fn w' i1 s x n d y m g qa)) := fun W hW => xFrom_c (E1.out.below hW) (by omega)
  have CF2 : Hid (∀ W, Below w3.heap.size w3 W → Calls Tryz.prog 49 #[.agg #[.int .i64 i2, .bool s2, .slice x2 n2 c2, .slice y2 m2 d2]] W fun e w' => ∃ s x n c d y m c' g, e = .returned (.agg #[.int .i64 i2, .bool s, .slice x n c, .slice y m c']) ∧ Below W.heap.size W w' ∧ Hid (n ≤ 200 ∧ m ≤ 200 ∧ Fn w' i2 s x n d y m g qb)) := fun W hW => xFrom_c (E2.out.below hW) (by omega)
  have CC : Hid (∀ (W : World) (s5 : Bool) (x5 : Option Addr) (n5 c5 : Nat) (d5 : Nat → Int) (y5 : Option Addr) (m5 e5 : Nat) (g5 : Nat → Int) (s6 : Bool) (x6 : Option Addr) (n6 c6 : Nat) (d6 : Nat → Int) (y6 : Option Addr) (m6 e6 : Nat) (g6 : Nat → Int), n5 ≤ 200 → m5 ≤ 200 → n6 ≤ 200 → m6 ≤ 200 → Fn W i1 s5 x5 n5 d5 y5 m5 g5 qa → Fn W i2 s6 x6 n6 d6 y6 m6 g6 qb → Calls Tryz.prog 48 #[.agg #[.int .i64 i1, .bool s5, .slice x5 n5 c5, .slice y5 m5 e5], .agg #[.int .i64 i2, .bool s6, .slice x6 n6 c6, .slice y6 m6 e6]] W fun e w' => ∃ r, e = .returned (.int .i64 r) ∧ Below W.heap.size W w' ∧ Hid (EOrd r i1 qa i2 qb)) := fun W s5 x5 n5 c5 d5 y5 m5 e5 g5 s6 x6 n6 c6 d6 y6 m6 e6 g6 l1 l2 l3 l4 k1 k2 => xCmp_c k1 k2 (by omega) (by omega) (by omega) (by omega)
  go_wp2_with fail
  go_region_held3 (fun w' => w'.cell? ⟨w.heap.size, 0, none⟩ = some (.int .i64 i1) ∧ w'.cell? ⟨w.heap.size, 1, none⟩ = some (.bool s1) ∧ w'.cell? ⟨w.heap.size, 2, none⟩ = some (.slice x1 n1 c1) ∧ w'.cell? ⟨w.heap.size, 3, none⟩ = some (.slice y1 m1 d1) ∧ w'.cell? ⟨w.heap.size + 1, 0, none⟩ = some (.int .i64 i2) ∧ w'.cell? ⟨w.heap.size + 1, 1, none⟩ = some (.bool s2) ∧ w'.cell? ⟨w.heap.size + 1, 2, none⟩ = some (.slice x2 n2 c2) ∧ w'.cell? ⟨w.heap.size + 1, 3, none⟩ = some (.slice y2 m2 d2))
    (refine ⟨?_, ?_, ?_, ?_, ?_, ?_, ?_, ?_⟩ <;> repeat (with_reducible first | assumption | refine kCd ?_ | refine kCb (by assumption) ?_))
    (first
      | (go_at_call 49; with_reducible refine (CF1.out _ (by repeat (with_reducible first | assumption | exact Below.refl _ _ | refine Below.drew ?_ | refine kBb (by assumption) ?_))).mono ?_; rintro e v5 ⟨s5, x5, n5, c5, d5, y5, m5, e5, g5, rfl, hb5, H5⟩)
      | (go_at_call 49; with_reducible refine (CF2.out _ (by repeat (with_reducible first | assumption | exact Below.refl _ _ | refine Below.drew ?_ | refine kBb (by assumption) ?_))).mono ?_; rintro e v6 ⟨s6, x6, n6, c6, d6, y6, m6, e6, g6, rfl, hb6, H6⟩)
      | (go_at_call 48; with_reducible refine (CC.out _ s5 x5 n5 c5 d5 y5 m5 e5 g5 s6 x6 n6 c6 d6 y6 m6 e6 g6 H5.out.1 H5.out.2.1 H6.out.1 H6.out.2.1 (by repeat (with_reducible first | exact H5.out.2.2 | refine kFnd ?_ | refine kFnb (by assumption) ?_)) (by repeat (with_reducible first | exact H6.out.2.2 | refine kFnd ?_ | refine kFnb (by assumption) ?_))).mono ?_; rintro e v7 ⟨r7, rfl, hb7, H7⟩))
  all_goals
    have hb : Below w3.heap.size w3 v7 := (by repeat (with_reducible first | assumption | exact Below.refl _ _ | refine Below.drew ?_ | refine kBb (by assumption) ?_))
    have HBz := hid (HB.out.trans (hb.mono HB.out.size))
    clear hb
    go_wp2
    go_ret2
    exact ⟨r7, 0, rfl, HBz.out, .inr ⟨rfl, rfl, H7.out⟩⟩

set_option maxRecDepth 100000 in
set_option maxHeartbeats 4000000 in
theorem docMaxX_g {w : World} {i1 : Int} {s1 : Bool} {x1 : Option Addr} {n1 c1 : Nat} {f1 : Nat → Int} {y1 : Option Addr} {m1 d1 : Nat} {g1 : Nat → Int} {i2 : Int} {s2 : Bool} {x2 : Option Addr} {n2 c2 : Nat} {f2 : Nat → Int} {y2 : Option Addr} {m2 d2 : Nat} {g2 : Nat → Int} {qa qb : Rat} {p1 p2 : Bool} (h1 : Rw w x1 n1 c1 f1 y1 m1 d1 g1) (h2 : Rw w x2 n2 c2 f2 y2 m2 d2 g2) (hn1 : n1 ≤ 100) (hm1 : m1 ≤ 100) (hn2 : n2 ≤ 100) (hm2 : m2 ≤ 100) (hp1 : efB i1 s1 f1 n1 g1 m1 = p1) (hp2 : efB i2 s2 f2 n2 g2 m2 = p2) (hq1 : p1 = true → En 100 w i1 s1 x1 n1 c1 f1 y1 m1 d1 g1 qa) (hq2 : p2 = true → En 100 w i2 s2 x2 n2 c2 f2 y2 m2 d2 g2 qb) :
    Calls Tryz.prog 16 #[.agg #[.int .i64 i1, .bool s1, .slice x1 n1 c1, .slice y1 m1 d1], .agg #[.int .i64 i2, .bool s2, .slice x2 n2 c2, .slice y2 m2 d2]] w fun e w' => ∃ i s x n c f y m d g er, e = .returned (.tuple #[.agg #[.int .i64 i, .bool s, .slice x n c, .slice y m d], .int .i64 er]) ∧ Below w.heap.size w w' ∧ Hid (OE (p1 && p2) (EMax i1 qa i2 qb) w' i s x n c f y m d g er) := by
  have k1 := ((bx4_at w (.int .i64 i1) (.bool s1) (.slice x1 n1 c1) (.slice y1 m1 d1) 26).alloc (.cells #[.int .i64 i2, .bool s2, .slice x2 n2 c2, .slice y2 m2 d2] 26)).alloc (.cells #[.int .i64 0, .bool false, .slice none 0 0, .slice none 0 0] 26)
  have k2 := (bx4_at (w.alloc (.cells #[.int .i64 i1, .bool s1, .slice x1 n1 c1, .slice y1 m1 d1] 26)) (.int .i64 i2) (.bool s2) (.slice x2 n2 c2) (.slice y2 m2 d2) 26).alloc (.cells #[.int .i64 0, .bool false, .slice none 0 0, .slice none 0 0] 26)
  rw [size_alloc1] at k2
  have k5 := ob4_new ((w.alloc (.cells #[.int .i64 i1, .bool s1, .slice x1 n1 c1, .slice y1 m1 d1] 26)).alloc (.cells #[.int .i64 i2, .bool s2, .slice x2 n2 c2, .slice y2 m2 d2] 26)) 26
  rw [size_alloc1, size_alloc1] at k5
  have k3 := below_alloc (below_alloc (below_alloc (Below.refl w.heap.size w) (.cells #[.int .i64 i1, .bool s1, .slice x1 n1 c1, .slice y1 m1 d1] 26)) (.cells #[.int .i64 i2, .bool s2, .slice x2 n2 c2, .slice y2 m2 d2] 26)) (.cells #[.int .i64 0, .bool false, .slice none 0 0, .slice none 0 0] 26)
  have HP1 := hid hp1; have HP2 := hid hp2; have HQ1 := hid (fun h => (hq1 h).below k3); have HQ2 := hid (fun h => (hq2 h).below k3); have HR1 := hid (h1.below k3); have HR2 := hid (h2.below k3)
  clear hp1 hp2 hq1 hq2 h1 h2
  go_enter Tryz.func16, Tryz.ntmps16
  go_upto_region 1 with fail
  generalize ((w.alloc (.cells #[.int .i64 i1, .bool s1, .slice x1 n1 c1, .slice y1 m1 d1] 26)).alloc (.cells #[.int .i64 i2, .bool s2, .slice x2 n2 c2, .slice y2 m2 d2] 26)).alloc (.cells #[.int .i64 0, .bool false, .slice none 0 0, .slice none 0 0] 26) = w1 at *
  have HW := hid k3; have OB := hid k5; have BA := hid k1; have BB := hid k2
  clear k1 k2 k3 k5
  have c1 := xForm_c (i := i1) (s := s1) HR1.out (by omega) (by omega)
  rw [HP1.out] at c1
  have C1 := hid c1
  have c2 := fun W hW => xForm_c (i := i2) (s := s2) (HR2.out.below (w' := W) hW) (by omega) (by omega)
  rw [HP2.out] at c2
  have C2 := hid c2
  clear c1 c2
  obtain ⟨za, a0, a1, a2, a3⟩ := BA.out
  go_wp2_with fail
  refine C1.out.mono ?_
  rintro e w2 ⟨rfl, hb⟩
  have HB1 := hid hb
  clear hb za a0 a1 a2 a3
  cases p1
  · have HB := hid (HW.out.trans (HB1.out.mono HW.out.size))
    obtain ⟨hz, z0, z1, z2, z3, zf⟩ := OB.out.below HB1.out
    go_wp2
    exact bodyPost_ret (v := .tuple #[.agg #[.int .i64 0, .bool false, .slice none 0 0, .slice none 0 0], .int .i64 3]) (by simp [results, Tryz.results16, go_sem, z0, z1, z2, z3]) rfl ⟨0, false, none, 0, 0, fun _ => 0, none, 0, 0, fun _ => 0, 3, rfl, below_st4 HB.out (by omega), .inl ⟨rfl, rfl, rfl, rfl, rfl, rfl⟩⟩
  obtain ⟨zb, b0, b1, b2, b3⟩ := BB.out.below HB1.out
  go_wp2_with fail
  refine (C2.out _ HB1.out).mono ?_
  rintro e w3 ⟨rfl, hb⟩
  have HB3 := hid (HB1.out.trans (hb.mono HB1.out.size))
  clear hb zb b0 b1 b2 b3
  cases p2
  · have HB := hid (HW.out.trans (HB3.out.mono HW.out.size))
    obtain ⟨hz, z0, z1, z2, z3, zf⟩ := OB.out.below HB3.out
    go_wp2
    exact bodyPost_ret (v := .tuple #[.agg #[.int .i64 0, .bool false, .slice none 0 0, .slice none 0 0], .int .i64 3]) (by simp [results, Tryz.results16, go_sem, z0, z1, z2, z3]) rfl ⟨0, false, none, 0, 0, fun _ => 0, none, 0, 0, fun _ => 0, 3, rfl, below_st4 HB.out (by omega), .inl ⟨rfl, rfl, rfl, rfl, rfl, rfl⟩⟩
  have E1 := hid ((HQ1.out (by simp)).below HB3.out); have E2 := hid ((HQ2.out (by simp)).below HB3.out)
  have HB := hid (HW.out.trans (HB3.out.mono HW.out.size))
  obtain ⟨za, a0, a1, a2, a3⟩ := BA.out.below HB3.out
  obtain ⟨zb, b0, b1, b2, b3⟩ := BB.out.below HB3.out
  have OB3 := hid (OB.out.below HB3.out)
  obtain ⟨hz, z0, z1, z2, z3, zf⟩ := OB3.out
  have CF1 : Hid (∀ W, Below w3.heap.size w3 W → Calls Tryz.prog 49 #[.agg #[.int .i64 i1, .bool s1, .slice x1 n1 c1, .slice y1 m1 d1]] W fun e w' => ∃ s x n c d y m c' g, e = .returned (.agg #[.int .i64 i1, .bool s, .slice x n c, .slice y m c']) ∧ Below W.heap.size W w' ∧ Hid (n ≤ 200 ∧ m ≤ 200 ∧ Fn w' i1 s x n d y m g qa)) := fun W hW => xFrom_c (E1.out.below hW) (by omega)
  have CF2 : Hid (∀ W, Below w3.heap.size w3 W → Calls Tryz.prog 49 #[.agg #[.int .i64 i2, .bool s2, .slice x2 n2 c2, .slice y2 m2 d2]] W fun e w' => ∃ s x n c d y m c' g, e = .returned (.agg #[.int .i64 i2, .bool s, .slice x n c, .slice y m c']) ∧ Below W.heap.size W w' ∧ Hid (n ≤ 200 ∧ m ≤ 200 ∧ Fn w' i2 s x n d y m g qb)) := fun W hW => xFrom_c (E2.out.below hW) (by omega)
  have CC : Hid (∀ (W : World) (s5 : Bool) (x5 : Option Addr) (n5 c5 : Nat) (d5 : Nat → Int) (y5 : Option Addr) (m5 e5 : Nat) (g5 : Nat → Int) (s6 : Bool) (x6 : Option Addr) (n6 c6 : Nat) (d6 : Nat → Int) (y6 : Option Addr) (m6 e6 : Nat) (g6 : Nat → Int), n5 ≤ 200 → m5 ≤ 200 → n6 ≤ 200 → m6 ≤ 200 → Fn W i1 s5 x5 n5 d5 y5 m5 g5 qa → Fn W i2 s6 x6 n6 d6 y6 m6 g6 qb → Calls Tryz.prog 55 #[.agg #[.int .i64 i1, .bool s5, .slice x5 n5 c5, .slice y5 m5 e5], .agg #[.int .i64 i2, .bool s6, .slice x6 n6 c6, .slice y6 m6 e6]] W fun e w' => ∃ i s x n c d y m c' g q, e = .returned (.agg #[.int .i64 i, .bool s, .slice x n c, .slice y m c']) ∧ Below W.heap.size W w' ∧ Hid (n ≤ 200 ∧ m ≤ 200 ∧ Fn w' i s x n d y m g q ∧ EMax i1 qa i2 qb i q)) := fun W s5 x5 n5 c5 d5 y5 m5 e5 g5 s6 x6 n6 c6 d6 y6 m6 e6 g6 l1 l2 l3 l4 k1 k2 => xMax_c k1 k2 (by omega) l1 l2 l3 l4
  have CT : Hid (∀ (W : World) (i : Int) (s : Bool) (x : Option Addr) (n c : Nat) (d : Nat → Int) (y : Option Addr) (m e : Nat) (g : Nat → Int) (q : Rat), n ≤ 200 → m ≤ 200 → Fn W i s x n d y m g q → Calls Tryz.prog 42 #[.agg #[.int .i64 i, .bool s, .slice x n c, .slice y m e]] W fun en w' => ∃ z k c' f z2 k2 c2 f2, en = .returned (.agg #[.int .i64 i, .bool s, .slice z k c', .slice z2 k2 c2]) ∧ Below W.heap.size W w' ∧ Hid (En 2000 w' i s z k c' f z2 k2 c2 f2 q)) := fun W i s x n c d y m e g q l1 l2 k1 => (xTo_c k1 (by omega) (by omega)).mono (fun _ _ ⟨z, k, c', f, z2, k2, c2, f2, j1, j2, j3⟩ => ⟨z, k, c', f, z2, k2, c2, f2, j1, j2, j3.out.mono (by omega)⟩)
  go_wp2_with fail
  go_region_held3 (fun w' => w'.cell? ⟨w.heap.size, 0, none⟩ = some (.int .i64 i1) ∧ w'.cell? ⟨w.heap.size, 1, none⟩ = some (.bool s1) ∧ w'.cell? ⟨w.heap.size, 2, none⟩ = some (.slice x1 n1 c1) ∧ w'.cell? ⟨w.heap.size, 3, none⟩ = some (.slice y1 m1 d1) ∧ w'.cell? ⟨w.heap.size + 1, 0, none⟩ = some (.int .i64 i2) ∧ w'.cell? ⟨w.heap.size + 1, 1, none⟩ = some (.bool s2) ∧ w'.cell? ⟨w.heap.size + 1, 2, none⟩ = some (.slice x2 n2 c2) ∧ w'.cell? ⟨w.heap.size + 1, 3, none⟩ = some (.slice y2 m2 d2) ∧ (w'.cell? ⟨w.heap.size + 1 + 1, 0, none⟩).isSome = true ∧ (w'.cell? ⟨w.heap.size + 1 + 1, 1, none⟩).isSome = true ∧ (w'.cell? ⟨w.heap.size + 1 + 1, 2, none⟩).isSome = true ∧ (w'.cell? ⟨w.heap.size + 1 + 1, 3, none⟩).isSome = true ∧ w'.frozen? ⟨w.heap.size + 1 + 1, 0, none⟩ = false ∧ w'.frozen? ⟨w.heap.size + 1 + 1, 1, none⟩ = false ∧ w'.frozen? ⟨w.heap.size + 1 + 1, 2, none⟩ = false ∧ w'.frozen? ⟨w.heap.size + 1 + 1, 3, none⟩ = false)
    (refine ⟨?_, ?_, ?_, ?_, ?_, ?_, ?_, ?_, ?_, ?_, ?_, ?_, ?_, ?_, ?_, ?_⟩ <;> repeat (with_reducible first | assumption | exact zf _ | exact tf _ | exact uf _ | exact vf' _ | exact rf' _ | exact kI0 z0 | exact kI0 z1 | exact kI0 z2 | exact kI0 z3 | exact kI0 t0 | exact kI0 t1 | exact kI0 t2 | exact kI0 t3 | exact kI0 u0 | exact kI0 u1 | exact kI0 u2 | exact kI0 u3 | exact kI0 v0 | exact kI0 v1 | exact kI0 v2 | exact kI0 v3 | exact kI0 r0 | exact kI0 r1 | exact kI0 r2 | exact kI0 r3 | refine kCd ?_ | refine kId ?_ | refine kFd ?_ | refine kCs (by simp only [ne_eq]; omega) ?_ | refine kIs ?_ | refine kFs ?_ | refine kCb (by assumption) ?_ | refine kIb (by assumption) ?_))
    (first
      | (go_at_call 49; with_reducible refine (CF1.out _ (by repeat (with_reducible first | assumption | exact Below.refl _ _ | refine Below.drew ?_ | refine kBb (by assumption) ?_))).mono ?_; rintro e v5 ⟨s5, x5, n5, c5, d5, y5, m5, e5, g5, rfl, hb5, H5⟩; have Tt : Ob4 v5 (w.heap.size + 1 + 1) := (by repeat (with_reducible first | exact OB3.out | exact Tt | exact Tu | exact Tv | exact Tr | refine Ob4.drew ?_ | refine kO4b (by assumption) ?_)); obtain ⟨_, t0, t1, t2, t3, tf⟩ := id Tt)
      | (go_at_call 49; with_reducible refine (CF2.out _ (by repeat (with_reducible first | assumption | exact Below.refl _ _ | refine Below.drew ?_ | refine kBb (by assumption) ?_))).mono ?_; rintro e v6 ⟨s6, x6, n6, c6, d6, y6, m6, e6, g6, rfl, hb6, H6⟩; have Tu : Ob4 v6 (w.heap.size + 1 + 1) := (by repeat (with_reducible first | exact OB3.out | exact Tt | exact Tu | exact Tv | exact Tr | refine Ob4.drew ?_ | refine kO4b (by assumption) ?_)); obtain ⟨_, u0, u1, u2, u3, uf⟩ := id Tu)
      | (go_at_call 55; with_reducible refine (CC.out _ s5 x5 n5 c5 d5 y5 m5 e5 g5 s6 x6 n6 c6 d6 y6 m6 e6 g6 H5.out.1 H5.out.2.1 H6.out.1 H6.out.2.1 (by repeat (with_reducible first | exact H5.out.2.2 | refine kFnd ?_ | refine kFnb (by assumption) ?_)) (by repeat (with_reducible first | exact H6.out.2.2 | refine kFnd ?_ | refine kFnb (by assumption) ?_))).mono ?_; rintro e v7 ⟨i7, s7, x7, n7, c7, d7, y7, m7, e7, g7, q7, rfl, hb7, H7⟩; have Tv : Ob4 v7 (w.heap.size + 1 + 1) := (by repeat (with_reducible first | exact OB3.out | exact Tt | exact Tu | exact Tv | exact Tr | refine Ob4.drew ?_ | refine kO4b (by assumption) ?_)); obtain ⟨_, v0, v1, v2, v3, vf'⟩ := id Tv)
      | (go_at_call 42; with_reducible refine (CT.out _ i7 s7 x7 n7 c7 d7 y7 m7 e7 g7 q7 H7.out.1 H7.out.2.1 (by repeat (with_reducible first | exact H7.out.2.2.1 | refine kFnd ?_ | refine kFnb (by assumption) ?_))).mono ?_; rintro e v8 ⟨x8, n8, c8, f8, y8, m8, d8, g8, rfl, hb8, H8⟩; have Tr : Ob4 v8 (w.heap.size + 1 + 1) := (by repeat (with_reducible first | exact OB3.out | exact Tt | exact Tu | exact Tv | exact Tr | refine Ob4.drew ?_ | refine kO4b (by assumption) ?_)); obtain ⟨_, r0, r1, r2, r3, rf'⟩ := id Tr))
  all_goals
    have hb : Below w3.heap.size w3 v8 := (by repeat (with_reducible first | assumption | exact Below.refl _ _ | refine Below.drew ?_ | refine kBb (by assumption) ?_))
    go_wp2
    exact bodyPost_ret (v := .tuple #[.agg #[.int .i64 i7, .bool s7, .slice x8 n8 c8, .slice y8 m8 d8], .int .i64 0]) (by simp [results, Tryz.results16, go_sem, r0, r1, r2, r3]) rfl ⟨i7, s7, x8, n8, c8, f8, y8, m8, d8, g8, 0, rfl, below_st4 (HB.out.trans (hb.mono HB.out.size)) (by omega), .inr ⟨rfl, rfl, q7, H7.out.2.2.2, ⟨Tr.rn H8.out.rn, H8.out.inf⟩⟩⟩

set_option maxRecDepth 100000 in
set_option maxHeartbeats 4000000 in
theorem docMinX_g {w : World} {i1 : Int} {s1 : Bool} {x1 : Option Addr} {n1 c1 : Nat} {f1 : Nat → Int} {y1 : Option Addr} {m1 d1 : Nat} {g1 : Nat → Int} {i2 : Int} {s2 : Bool} {x2 : Option Addr} {n2 c2 : Nat} {f2 : Nat → Int} {y2 : Option Addr} {m2 d2 : Nat} {g2 : Nat → Int} {qa qb : Rat} {p1 p2 : Bool} (h1 : Rw w x1 n1 c1 f1 y1 m1 d1 g1) (h2 : Rw w x2 n2 c2 f2 y2 m2 d2 g2) (hn1 : n1 ≤ 100) (hm1 : m1 ≤ 100) (hn2 : n2 ≤ 100) (hm2 : m2 ≤ 100) (hp1 : efB i1 s1 f1 n1 g1 m1 = p1) (hp2 : efB i2 s2 f2 n2 g2 m2 = p2) (hq1 : p1 = true → En 100 w i1 s1 x1 n1 c1 f1 y1 m1 d1 g1 qa) (hq2 : p2 = true → En 100 w i2 s2 x2 n2 c2 f2 y2 m2 d2 g2 qb) :
    Calls Tryz.prog 19 #[.agg #[.int .i64 i1, .bool s1, .slice x1 n1 c1, .slice y1 m1 d1], .agg #[.int .i64 i2, .bool s2, .slice x2 n2 c2, .slice y2 m2 d2]] w fun e w' => ∃ i s x n c f y m d g er, e = .returned (.tuple #[.agg #[.int .i64 i, .bool s, .slice x n c, .slice y m d], .int .i64 er]) ∧ Below w.heap.size w w' ∧ Hid (OE (p1 && p2) (EMin i1 qa i2 qb) w' i s x n c f y m d g er) := by
  have k1 := ((bx4_at w (.int .i64 i1) (.bool s1) (.slice x1 n1 c1) (.slice y1 m1 d1) 26).alloc (.cells #[.int .i64 i2, .bool s2, .slice x2 n2 c2, .slice y2 m2 d2] 26)).alloc (.cells #[.int .i64 0, .bool false, .slice none 0 0, .slice none 0 0] 26)
  have k2 := (bx4_at (w.alloc (.cells #[.int .i64 i1, .bool s1, .slice x1 n1 c1, .slice y1 m1 d1] 26)) (.int .i64 i2) (.bool s2) (.slice x2 n2 c2) (.slice y2 m2 d2) 26).alloc (.cells #[.int .i64 0, .bool false, .slice none 0 0, .slice none 0 0] 26)
  rw [size_alloc1] at k2
  have k5 := ob4_new ((w.alloc (.cells #[.int .i64 i1, .bool s1, .slice x1 n1 c1, .slice y1 m1 d1] 26)).alloc (.cells #[.int .i64 i2, .bool s2, .slice x2 n2 c2, .slice y2 m2 d2] 26)) 26
  rw [size_alloc1, size_alloc1] at k5
  have k3 := below_alloc (below_alloc (below_alloc (Below.refl w.heap.size w) (.cells #[.int .i64 i1, .bool s1, .slice x1 n1 c1, .slice y1 m1 d1] 26)) (.cells #[.int .i64 i2, .bool s2, .slice x2 n2 c2, .slice y2 m2 d2] 26)) (.cells #[.int .i64 0, .bool false, .slice none 0 0, .slice none 0 0] 26)
  have HP1 := hid hp1; have HP2 := hid hp2; have HQ1 := hid (fun h => (hq1 h).below k3); have HQ2 := hid (fun h => (hq2 h).below k3); have HR1 := hid (h1.below k3); have HR2 := hid (h2.below k3)
  clear hp1 hp2 hq1 hq2 h1 h2
  go_enter Tryz.func19, Tryz.ntmps19
  go_upto_region 1 with fail
  generalize ((w.alloc (.cells #[.int .i64 i1, .bool s1, .slice x1 n1 c1, .slice y1 m1 d1] 26)).alloc (.cells #[.int .i64 i2, .bool s2, .slice x2 n2 c2, .slice y2 m2 d2] 26)).alloc (.cells #[.int .i64 0, .bool false, .slice none 0 0, .slice none 0 0] 26) = w1 at *
  have HW := hid k3; have OB := hid k5; have BA := hid k1; have BB := hid k2
  clear k1 k2 k3 k5
  have c1 := xForm_c (i := i1) (s := s1) HR1.out (by omega) (by omega)
  rw [HP1.out] at c1
  have C1 := hid c1
  have c2 := fun W hW => xForm_c (i := i2) (s := s2) (HR2.out.below (w' := W) hW) (by omega) (by omega)
  rw [HP2.out] at c2
  have C2 := hid c2
  clear c1 c2
  obtain ⟨za, a0, a1, a2, a3⟩ := BA.out
  go_wp2_with fail
  refine C1.out.mono ?_
  rintro e w2 ⟨rfl, hb⟩
  have HB1 := hid hb
  clear hb za a0 a1 a2 a3
  cases p1
  · have HB := hid (HW.out.trans (HB1.out.mono HW.out.size))
    obtain ⟨hz, z0, z1, z2, z3, zf⟩ := OB.out.below HB1.out
    go_wp2
    exact bodyPost_ret (v := .tuple #[.agg #[.int .i64 0, .bool false, .slice none 0 0, .slice none 0 0], .int .i64 3]) (by simp [results, Tryz.results19, go_sem, z0, z1, z2, z3]) rfl ⟨0, false, none, 0, 0, fun _ => 0, none, 0, 0, fun _ => 0, 3, rfl, below_st4 HB.out (by omega), .inl ⟨rfl, rfl, rfl, rfl, rfl, rfl⟩⟩
  obtain ⟨zb, b0, b1, b2, b3⟩ := BB.out.below HB1.out
  go_wp2_with fail
  refine (C2.out _ HB1.out).mono ?_
  rintro e w3 ⟨rfl, hb⟩
  have HB3 := hid (HB1.out.trans (hb.mono HB1.out.size))
  clear hb zb b0 b1 b2 b3
  cases p2
  · have HB := hid (HW.out.trans (HB3.out.mono HW.out.size))
    obtain ⟨hz, z0, z1, z2, z3, zf⟩ := OB.out.below HB3.out
    go_wp2
    exact bodyPost_ret (v := .tuple #[.agg #[.int .i64 0, .bool false, .slice none 0 0, .slice none 0 0], .int .i64 3]) (by simp [results, Tryz.results19, go_sem, z0, z1, z2, z3]) rfl ⟨0, false, none, 0, 0, fun _ => 0, none, 0, 0, fun _ => 0, 3, rfl, below_st4 HB.out (by omega), .inl ⟨rfl, rfl, rfl, rfl, rfl, rfl⟩⟩
  have E1 := hid ((HQ1.out (by simp)).below HB3.out); have E2 := hid ((HQ2.out (by simp)).below HB3.out)
  have HB := hid (HW.out.trans (HB3.out.mono HW.out.size))
  obtain ⟨za, a0, a1, a2, a3⟩ := BA.out.below HB3.out
  obtain ⟨zb, b0, b1, b2, b3⟩ := BB.out.below HB3.out
  have OB3 := hid (OB.out.below HB3.out)
  obtain ⟨hz, z0, z1, z2, z3, zf⟩ := OB3.out
  have CF1 : Hid (∀ W, Below w3.heap.size w3 W → Calls Tryz.prog 49 #[.agg #[.int .i64 i1, .bool s1, .slice x1 n1 c1, .slice y1 m1 d1]] W fun e w' => ∃ s x n c d y m c' g, e = .returned (.agg #[.int .i64 i1, .bool s, .slice x n c, .slice y m c']) ∧ Below W.heap.size W w' ∧ Hid (n ≤ 200 ∧ m ≤ 200 ∧ Fn w' i1 s x n d y m g qa)) := fun W hW => xFrom_c (E1.out.below hW) (by omega)
  have CF2 : Hid (∀ W, Below w3.heap.size w3 W → Calls Tryz.prog 49 #[.agg #[.int .i64 i2, .bool s2, .slice x2 n2 c2, .slice y2 m2 d2]] W fun e w' => ∃ s x n c d y m c' g, e = .returned (.agg #[.int .i64 i2, .bool s, .slice x n c, .slice y m c']) ∧ Below W.heap.size W w' ∧ Hid (n ≤ 200 ∧ m ≤ 200 ∧ Fn w' i2 s x n d y m g qb)) := fun W hW => xFrom_c (E2.out.below hW) (by omega)
  have CC : Hid (∀ (W : World) (s5 : Bool) (x5 : Option Addr) (n5 c5 : Nat) (d5 : Nat → Int) (y5 : Option Addr) (m5 e5 : Nat) (g5 : Nat → Int) (s6 : Bool) (x6 : Option Addr) (n6 c6 : Nat) (d6 : Nat → Int) (y6 : Option Addr) (m6 e6 : Nat) (g6 : Nat → Int), n5 ≤ 200 → m5 ≤ 200 → n6 ≤ 200 → m6 ≤ 200 → Fn W i1 s5 x5 n5 d5 y5 m5 g5 qa → Fn W i2 s6 x6 n6 d6 y6 m6 g6 qb → Calls Tryz.prog 56 #[.agg #[.int .i64 i1, .bool s5, .slice x5 n5 c5, .slice y5 m5 e5], .agg #[.int .i64 i2, .bool s6, .slice x6 n6 c6, .slice y6 m6 e6]] W fun e w' => ∃ i s x n c d y m c' g q, e = .returned (.agg #[.int .i64 i, .bool s, .slice x n c, .slice y m c']) ∧ Below W.heap.size W w' ∧ Hid (n ≤ 200 ∧ m ≤ 200 ∧ Fn w' i s x n d y m g q ∧ EMin i1 qa i2 qb i q)) := fun W s5 x5 n5 c5 d5 y5 m5 e5 g5 s6 x6 n6 c6 d6 y6 m6 e6 g6 l1 l2 l3 l4 k1 k2 => xMin_c k1 k2 (by omega) l1 l2 l3 l4
  have CT : Hid (∀ (W : World) (i : Int) (s : Bool) (x : Option Addr) (n c : Nat) (d : Nat → Int) (y : Option Addr) (m e : Nat) (g : Nat → Int) (q : Rat), n ≤ 200 → m ≤ 200 → Fn W i s x n d y m g q → Calls Tryz.prog 42 #[.agg #[.int .i64 i, .bool s, .slice x n c, .slice y m e]] W fun en w' => ∃ z k c' f z2 k2 c2 f2, en = .returned (.agg #[.int .i64 i, .bool s, .slice z k c', .slice z2 k2 c2]) ∧ Below W.heap.size W w' ∧ Hid (En 2000 w' i s z k c' f z2 k2 c2 f2 q)) := fun W i s x n c d y m e g q l1 l2 k1 => (xTo_c k1 (by omega) (by omega)).mono (fun _ _ ⟨z, k, c', f, z2, k2, c2, f2, j1, j2, j3⟩ => ⟨z, k, c', f, z2, k2, c2, f2, j1, j2, j3.out.mono (by omega)⟩)
  go_wp2_with fail
  go_region_held3 (fun w' => w'.cell? ⟨w.heap.size, 0, none⟩ = some (.int .i64 i1) ∧ w'.cell? ⟨w.heap.size, 1, none⟩ = some (.bool s1) ∧ w'.cell? ⟨w.heap.size, 2, none⟩ = some (.slice x1 n1 c1) ∧ w'.cell? ⟨w.heap.size, 3, none⟩ = some (.slice y1 m1 d1) ∧ w'.cell? ⟨w.heap.size + 1, 0, none⟩ = some (.int .i64 i2) ∧ w'.cell? ⟨w.heap.size + 1, 1, none⟩ = some (.bool s2) ∧ w'.cell? ⟨w.heap.size + 1, 2, none⟩ = some (.slice x2 n2 c2) ∧ w'.cell? ⟨w.heap.size + 1, 3, none⟩ = some (.slice y2 m2 d2) ∧ (w'.cell? ⟨w.heap.size + 1 + 1, 0, none⟩).isSome = true ∧ (w'.cell? ⟨w.heap.size + 1 + 1, 1, none⟩).isSome = true ∧ (w'.cell? ⟨w.heap.size + 1 + 1, 2, none⟩).isSome = true ∧ (w'.cell? ⟨w.heap.size + 1 + 1, 3, none⟩).isSome = true ∧ w'.frozen? ⟨w.heap.size + 1 + 1, 0, none⟩ = false ∧ w'.frozen? ⟨w.heap.size + 1 + 1, 1, none⟩ = false ∧ w'.frozen? ⟨w.heap.size + 1 + 1, 2, none⟩ = false ∧ w'.frozen? ⟨w.heap.size + 1 + 1, 3, none⟩ = false)
    (refine ⟨?_, ?_, ?_, ?_, ?_, ?_, ?_, ?_, ?_, ?_, ?_, ?_, ?_, ?_, ?_, ?_⟩ <;> repeat (with_reducible first | assumption | exact zf _ | exact tf _ | exact uf _ | exact vf' _ | exact rf' _ | exact kI0 z0 | exact kI0 z1 | exact kI0 z2 | exact kI0 z3 | exact kI0 t0 | exact kI0 t1 | exact kI0 t2 | exact kI0 t3 | exact kI0 u0 | exact kI0 u1 | exact kI0 u2 | exact kI0 u3 | exact kI0 v0 | exact kI0 v1 | exact kI0 v2 | exact kI0 v3 | exact kI0 r0 | exact kI0 r1 | exact kI0 r2 | exact kI0 r3 | refine kCd ?_ | refine kId ?_ | refine kFd ?_ | refine kCs (by simp only [ne_eq]; omega) ?_ | refine kIs ?_ | refine kFs ?_ | refine kCb (by assumption) ?_ | refine kIb (by assumption) ?_))
    (first
      | (go_at_call 49; with_reducible refine (CF1.out _ (by repeat (with_reducible first | assumption | exact Below.refl _ _ | refine Below.drew ?_ | refine kBb (by assumption) ?_))).mono ?_; rintro e v5 ⟨s5, x5, n5, c5, d5, y5, m5, e5, g5, rfl, hb5, H5⟩; have Tt : Ob4 v5 (w.heap.size + 1 + 1) := (by repeat (with_reducible first | exact OB3.out | exact Tt | exact Tu | exact Tv | exact Tr | refine Ob4.drew ?_ | refine kO4b (by assumption) ?_)); obtain ⟨_, t0, t1, t2, t3, tf⟩ := id Tt)
      | (go_at_call 49; with_reducible refine (CF2.out _ (by repeat (with_reducible first | assumption | exact Below.refl _ _ | refine Below.drew ?_ | refine kBb (by assumption) ?_))).mono ?_; rintro e v6 ⟨s6, x6, n6, c6, d6, y6, m6, e6, g6, rfl, hb6, H6⟩; have Tu : Ob4 v6 (w.heap.size + 1 + 1) := (by repeat (with_reducible first | exact OB3.out | exact Tt | exact Tu | exact Tv | exact Tr | refine Ob4.drew ?_ | refine kO4b (by assumption) ?_)); obtain ⟨_, u0, u1, u2, u3, uf⟩ := id Tu)
      | (go_at_call 56; with_reducible refine (CC.out _ s5 x5 n5 c5 d5 y5 m5 e5 g5 s6 x6 n6 c6 d6 y6 m6 e6 g6 H5.out.1 H5.out.2.1 H6.out.1 H6.out.2.1 (by repeat (with_reducible first | exact H5.out.2.2 | refine kFnd ?_ | refine kFnb (by assumption) ?_)) (by repeat (with_reducible first | exact H6.out.2.2 | refine kFnd ?_ | refine kFnb (by assumption) ?_))).mono ?_; rintro e v7 ⟨i7, s7, x7, n7, c7, d7, y7, m7, e7, g7, q7, rfl, hb7, H7⟩; have Tv : Ob4 v7 (w.heap.size + 1 + 1) := (by repeat (with_reducible first | exact OB3.out | exact Tt | exact Tu | exact Tv | exact Tr | refine Ob4.drew ?_ | refine kO4b (by assumption) ?_)); obtain ⟨_, v0, v1, v2, v3, vf'⟩ := id Tv)
      | (go_at_call 42; with_reducible refine (CT.out _ i7 s7 x7 n7 c7 d7 y7 m7 e7 g7 q7 H7.out.1 H7.out.2.1 (by repeat (with_reducible first | exact H7.out.2.2.1 | refine kFnd ?_ | refine kFnb (by assumption) ?_))).mono ?_; rintro e v8 ⟨x8, n8, c8, f8, y8, m8, d8, g8, rfl, hb8, H8⟩; have Tr : Ob4 v8 (w.heap.size + 1 + 1) := (by repeat (with_reducible first | exact OB3.out | exact Tt | exact Tu | exact Tv | exact Tr | refine Ob4.drew ?_ | refine kO4b (by assumption) ?_)); obtain ⟨_, r0, r1, r2, r3, rf'⟩ := id Tr))
  all_goals
    have hb : Below w3.heap.size w3 v8 := (by repeat (with_reducible first | assumption | exact Below.refl _ _ | refine Below.drew ?_ | refine kBb (by assumption) ?_))
    go_wp2
    exact bodyPost_ret (v := .tuple #[.agg #[.int .i64 i7, .bool s7, .slice x8 n8 c8, .slice y8 m8 d8], .int .i64 0]) (by simp [results, Tryz.results19, go_sem, r0, r1, r2, r3]) rfl ⟨i7, s7, x8, n8, c8, f8, y8, m8, d8, g8, 0, rfl, below_st4 (HB.out.trans (hb.mono HB.out.size)) (by omega), .inr ⟨rfl, rfl, q7, H7.out.2.2.2, ⟨Tr.rn H8.out.rn, H8.out.inf⟩⟩⟩

set_option maxRecDepth 100000 in
set_option maxHeartbeats 4000000 in
theorem lsame_c {w : World} {i1 : Int} {s1 : Bool} {x1 : Option Addr} {n1 c1 : Nat} {y1 : Option Addr} {m1 d1 : Nat} {i2 : Int} {s2 : Bool} {x2 : Option Addr} {n2 c2 : Nat} {y2 : Option Addr} {m2 d2 : Nat} {er : Int} (hS : ∀ W, Below w.heap.size w W → Calls Tryz.prog 35 #[.agg #[.int .i64 i1, .bool s1, .slice x1 n1 c1, .slice y1 m1 d1], .agg #[.int .i64 i2, .bool s2, .slice x2 n2 c2, .slice y2 m2 d2]] W fun e w' => e = .returned (.bool true) ∧ Below W.heap.size W w') :
    Calls Tryz.prog 17 #[.agg #[.int .i64 i1, .bool s1, .slice x1 n1 c1, .slice y1 m1 d1], .int .i64 er, .agg #[.int .i64 i2, .bool s2, .slice x2 n2 c2, .slice y2 m2 d2], .int .i64 er] w fun e w' => e = .returned (.bool true) ∧ Below w.heap.size w w' := by
  have h1 := (bx4_at w (.int .i64 i1) (.bool s1) (.slice x1 n1 c1) (.slice y1 m1 d1) 26).alloc (.cells #[.int .i64 i2, .bool s2, .slice x2 n2 c2, .slice y2 m2 d2] 26)
  have h2 := bx4_at (w.alloc (.cells #[.int .i64 i1, .bool s1, .slice x1 n1 c1, .slice y1 m1 d1] 26)) (.int .i64 i2) (.bool s2) (.slice x2 n2 c2) (.slice y2 m2 d2) 26
  rw [size_alloc1] at h2
  have h3 := below_alloc (below_alloc (Below.refl w.heap.size w) (.cells #[.int .i64 i1, .bool s1, .slice x1 n1 c1, .slice y1 m1 d1] 26)) (.cells #[.int .i64 i2, .bool s2, .slice x2 n2 c2, .slice y2 m2 d2] 26)
  have HS := hid (hS _ h3)
  have hee : (er == er) = true := by simp
  clear hS
  go_enter Tryz.func17, Tryz.ntmps17
  go_upto_region 1 with fail
  generalize (w.alloc (.cells #[.int .i64 i1, .bool s1, .slice x1 n1 c1, .slice y1 m1 d1] 26)).alloc (.cells #[.int .i64 i2, .bool s2, .slice x2 n2 c2, .slice y2 m2 d2] 26) = w1 at *
  have HW := hid h3
  obtain ⟨za, a0, a1, a2, a3⟩ := h1
  obtain ⟨zb, b0, b1, b2, b3⟩ := h2
  clear h3
  go_wp2_with fail
  refine HS.out.mono ?_
  rintro e w2 ⟨rfl, hb⟩
  have HB := hid (HW.out.trans (hb.mono HW.out.size))
  clear hb
  go_wp2
  go_ret
  exact ⟨rfl, HB.out⟩

set_option maxRecDepth 100000 in
set_option maxHeartbeats 4000000 in
theorem elight_c {w : World} {i1 : Int} {s1 : Bool} {x1 : Option Addr} {n1 c1 : Nat} {y1 : Option Addr} {m1 d1 : Nat} {i2 : Int} {s2 : Bool} {x2 : Option Addr} {n2 c2 : Nat} {y2 : Option Addr} {m2 d2 : Nat} (l1 : n1 ≤ 9223372036854775807) (l2 : m1 ≤ 9223372036854775807) (l3 : n2 ≤ 9223372036854775807) (l4 : m2 ≤ 9223372036854775807) :
    Calls Tryz.prog 9 #[.agg #[.int .i64 i1, .bool s1, .slice x1 n1 c1, .slice y1 m1 d1], .agg #[.int .i64 i2, .bool s2, .slice x2 n2 c2, .slice y2 m2 d2]] w fun e w' => e = .returned (.bool (lg n1 m1 20 && lg n2 m2 20)) ∧ Below w.heap.size w w' := by
  have h1 := (bx4_at w (.int .i64 i1) (.bool s1) (.slice x1 n1 c1) (.slice y1 m1 d1) 26).alloc (.cells #[.int .i64 i2, .bool s2, .slice x2 n2 c2, .slice y2 m2 d2] 26)
  have h2 := bx4_at (w.alloc (.cells #[.int .i64 i1, .bool s1, .slice x1 n1 c1, .slice y1 m1 d1] 26)) (.int .i64 i2) (.bool s2) (.slice x2 n2 c2) (.slice y2 m2 d2) 26
  rw [size_alloc1] at h2
  have h3 := below_alloc (below_alloc (Below.refl w.heap.size w) (.cells #[.int .i64 i1, .bool s1, .slice x1 n1 c1, .slice y1 m1 d1] 26)) (.cells #[.int .i64 i2, .bool s2, .slice x2 n2 c2, .slice y2 m2 d2] 26)
  have C1 := hid (fun W => rLight_c s1 x1 y1 n1 c1 m1 d1 W l1 l2)
  have C2 := hid (fun W => rLight_c s2 x2 y2 n2 c2 m2 d2 W l3 l4)
  obtain ⟨p, hp⟩ : ∃ p, lg n1 m1 20 = p := ⟨_, rfl⟩
  obtain ⟨q, hq⟩ : ∃ p, lg n2 m2 20 = p := ⟨_, rfl⟩
  rw [hp, hq]
  rw [hp] at C1
  rw [hq] at C2
  clear hp hq
  go_enter Tryz.func9, Tryz.ntmps9
  go_upto_region 1 with fail
  generalize (w.alloc (.cells #[.int .i64 i1, .bool s1, .slice x1 n1 c1, .slice y1 m1 d1] 26)).alloc (.cells #[.int .i64 i2, .bool s2, .slice x2 n2 c2, .slice y2 m2 d2] 26) = w1 at *
  have HW := hid h3; have BB := hid h2
  obtain ⟨za, a0, a1, a2, a3⟩ := h1
  clear h2 h3
  go_wp2_with fail
  refine (C1.out _).mono ?_
  rintro e w2 ⟨rfl, hb⟩
  have HB := hid (HW.out.trans (hb.mono HW.out.size)); have BB2 := hid (BB.out.below hb)
  clear hb za a0 a1 a2 a3
  cases p
  · go_wp2
    go_ret
    exact ⟨rfl, HB.out⟩
  obtain ⟨zb, b0, b1, b2, b3⟩ := BB2.out
  go_wp2_with fail
  refine (C2.out _).mono ?_
  rintro e w3 ⟨rfl, hb⟩
  have HB3 := hid (HB.out.trans (hb.mono HB.out.size))
  clear hb
  go_wp2
  go_ret
  exact ⟨rfl, HB3.out⟩

set_option maxRecDepth 100000 in
set_option maxHeartbeats 4000000 in
theorem num4_c {w : World} {z : Int} (l1 : -9223372036854775808 ≤ z) (l2 : z ≤ 9223372036854775807) : Calls Tryz.prog 40 #[.int .i64 z] w fun e w' => ∃ s x n c f y m d g, e = .returned (.agg #[.int .i64 0, .bool s, .slice x n c, .slice y m d]) ∧ Below w.heap.size w w' ∧ Hid (En 4 w' 0 s x n c f y m d g (z : Rat)) := by
  have h2 := ob4_new w 26
  have h3 := below_alloc (Below.refl w.heap.size w) (.cells #[.int .i64 0, .bool false, .slice none 0 0, .slice none 0 0] 26)
  go_enter Tryz.func40, Tryz.ntmps40
  go_wp2_with fail
  generalize w.alloc (.cells #[.int .i64 0, .bool false, .slice none 0 0, .slice none 0 0] 26) = w1 at *
  have OB := hid h2; have HW := hid h3
  clear h2 h3
  refine (qInt_c l1 l2).mono ?_
  rintro e w2 ⟨s2, x2, n2, c2, d2, y2, m2, e2, g2, rfl, hb, hl1, hl2, hq⟩
  have HB2 := hid hb; have Q2 := hid hq
  clear hb hq
  go_wp2_with fail
  refine (xNum_c Q2.out).mono ?_
  rintro e w3 ⟨rfl, hb, hf⟩
  have HB3 := hid (HB2.out.trans (hb.mono HB2.out.size)); have F3 := hid hf
  clear hb hf
  go_wp2_with fail
  refine (xTo_c F3.out (by omega) (by omega)).mono ?_
  rintro e w4 ⟨x4, n4, c4, f4, y4, m4, d4, g4, rfl, hb, H4⟩
  have HB4 := hid (HW.out.trans ((HB3.out.trans (hb.mono HB3.out.size)).mono HW.out.size)); have OB4 := hid ((OB.out.below HB3.out).below hb)
  clear hb
  obtain ⟨hz, z0, z1, z2, z3, zf⟩ := OB4.out
  go_wp2
  exact bodyPost_ret (v := .agg #[.int .i64 0, .bool s2, .slice x4 n4 c4, .slice y4 m4 d4]) (by simp [results, Tryz.results40, go_sem, z0, z1, z2, z3]) rfl ⟨s2, x4, n4, c4, f4, y4, m4, d4, g4, rfl, below_st4 HB4.out (Nat.le_refl _), ⟨OB4.out.rn (H4.out.rn.mono (by omega)), .inl rfl⟩⟩
end Go.Proofs.YtbindadjepfkcaaGreatDoor
namespace Go.Proofs.YtbindadjepfkcaaGreatDoor
open Go.RowKit

theorem kLid {w B a0 a1 a2 a3 b0 b1 b2 b3} (h : Li2 w B a0 a1 a2 a3 b0 b1 b2 b3) : Li2 w.drew B a0 a1 a2 a3 b0 b1 b2 b3 := ⟨h.z, h.x0, h.x1, h.x2, h.x3, h.y0, h.y1, h.y2, h.y3⟩
set_option maxRecDepth 100000 in
set_option maxHeartbeats 4000000 in
theorem enumber_c {w : World} {s : Bool} {x : Option Addr} {n c : Nat} {y : Option Addr} {m d : Nat} : Calls Tryz.prog 57 #[.agg #[.bool s, .slice x n c, .slice y m d]] w fun e w' => e = .returned (.agg #[.int .i64 0, .bool s, .slice x n c, .slice y m d]) ∧ Below w.heap.size w w' := by
  have h1 := (bx3_at w (.bool s) (.slice x n c) (.slice y m d) 24).alloc (.cells #[.int .i64 0, .bool false, .slice none 0 0, .slice none 0 0] 26)
  have h2 := ob4_new (w.alloc (.cells #[.bool s, .slice x n c, .slice y m d] 24)) 26
  rw [size_alloc1] at h2
  have h3 := below_alloc (below_alloc (Below.refl w.heap.size w) (.cells #[.bool s, .slice x n c, .slice y m d] 24)) (.cells #[.int .i64 0, .bool false, .slice none 0 0, .slice none 0 0] 26)
  go_enter Tryz.func57, Tryz.ntmps57
  go_upto_region 1 with fail
  generalize (w.alloc (.cells #[.bool s, .slice x n c, .slice y m d] 24)).alloc (.cells #[.int .i64 0, .bool false, .slice none 0 0, .slice none 0 0] 26) = w1 at *
  have HW := hid h3
  obtain ⟨z, x0, x1, x2⟩ := h1
  obtain ⟨hz, z0, z1, z2, z3, zf⟩ := h2
  clear h3
  go_wp2
  exact bodyPost_ret (v := .agg #[.int .i64 0, .bool s, .slice x n c, .slice y m d]) (by simp [results, Tryz.results57, go_sem, z0, z1, z2, z3]) rfl ⟨rfl, below_st4 HW.out (by omega)⟩

set_option maxRecDepth 100000 in
set_option maxHeartbeats 4000000 in
theorem eScaleLow_c {w : World} {s : Bool} {x : Option Addr} {n c : Nat} {f : Nat → Int} {y : Option Addr} {m d : Nat} {g : Nat → Int} {x2 : Option Addr} {n2 c2 : Nat} {f2 : Nat → Int} {y2 : Option Addr} {m2 d2 : Nat} {g2 : Nat → Int} {q : Rat} (h : En 4 w (-1) s x n c f y m d g 0) (hr : Rn 4 w true x2 n2 c2 f2 y2 m2 d2 g2 q) :
    Calls Tryz.prog 28 #[.agg #[.int .i64 (-1), .bool s, .slice x n c, .slice y m d], .agg #[.bool true, .slice x2 n2 c2, .slice y2 m2 d2]] w fun e w' => ∃ s x n c f y m d g, e = .returned (.tuple #[.agg #[.int .i64 1, .bool s, .slice x n c, .slice y m d], .int .i64 0]) ∧ Below w.heap.size w w' ∧ Hid (En 4 w' 1 s x n c f y m d g 0) := by
  have hn2 : 0 < n2 := sgn_of_wfB hr.num.wf rfl
  have k1 := ((bx4_at w (.int .i64 (-1)) (.bool s) (.slice x n c) (.slice y m d) 26).alloc (.cells #[.bool true, .slice x2 n2 c2, .slice y2 m2 d2] 24)).alloc (.cells #[.int .i64 0, .bool false, .slice none 0 0, .slice none 0 0] 26)
  have k2 := (bx3_at (w.alloc (.cells #[.int .i64 (-1), .bool s, .slice x n c, .slice y m d] 26)) (.bool true) (.slice x2 n2 c2) (.slice y2 m2 d2) 24).alloc (.cells #[.int .i64 0, .bool false, .slice none 0 0, .slice none 0 0] 26)
  rw [size_alloc1] at k2
  have k5 := ob4_new ((w.alloc (.cells #[.int .i64 (-1), .bool s, .slice x n c, .slice y m d] 26)).alloc (.cells #[.bool true, .slice x2 n2 c2, .slice y2 m2 d2] 24)) 26
  rw [size_alloc1, size_alloc1] at k5
  have k3 := below_alloc (below_alloc (below_alloc (Below.refl w.heap.size w) (.cells #[.int .i64 (-1), .bool s, .slice x n c, .slice y m d] 26)) (.cells #[.bool true, .slice x2 n2 c2, .slice y2 m2 d2] 24)) (.cells #[.int .i64 0, .bool false, .slice none 0 0, .slice none 0 0] 26)
  have HE := hid (h.below k3); have HR := hid (hr.below k3)
  have hl1 := h.rn.ln; have hl2 := h.rn.ld; have hl3 := hr.ln; have hl4 := hr.ld
  have hnd : decide (n2 = 0) = false := decide_eq_false (by omega)
  clear h hr
  go_enter Tryz.func28, Tryz.ntmps28
  go_upto_region 1 with fail
  generalize ((w.alloc (.cells #[.int .i64 (-1), .bool s, .slice x n c, .slice y m d] 26)).alloc (.cells #[.bool true, .slice x2 n2 c2, .slice y2 m2 d2] 24)).alloc (.cells #[.int .i64 0, .bool false, .slice none 0 0, .slice none 0 0] 26) = w1 at *
  have HW := hid k3; have OB := hid k5; have BA := hid k1; have BB := hid k2
  clear k1 k2 k3 k5
  have CN : Hid (∀ W : World, Calls Tryz.prog 57 #[.agg #[.bool true, .slice x2 n2 c2, .slice y2 m2 d2]] W fun e w' => e = .returned (.agg #[.int .i64 0, .bool true, .slice x2 n2 c2, .slice y2 m2 d2]) ∧ Below W.heap.size W w') := fun W => enumber_c
  have CAF : Hid (∀ (W : World) (B : Nat), Li2 W B (.int .i64 (-1)) (.bool s) (.slice x n c) (.slice y m d) (.int .i64 0) (.bool true) (.slice x2 n2 c2) (.slice y2 m2 d2) → Below w1.heap.size w1 W → Calls Tryz.prog 45 #[.slice (some ⟨B, 0, none⟩) 2 2] W fun e w' => e = .returned (.bool true) ∧ Below W.heap.size W w') := fun W B hB hW => by
    have e1 := HE.out.below hW
    have e2 : En 4 W 0 true x2 n2 c2 f2 y2 m2 d2 g2 q := ⟨HR.out.below hW, .inl rfl⟩
    have := allForm2_c hB e1.rn.rw e2.rn.rw (by omega) (by omega) (by omega) (by omega)
    rw [e1.ef, e2.ef] at this
    exact this
  obtain ⟨za, a0, a1, a2, a3⟩ := BA.out
  obtain ⟨zb, b0, b1, b2⟩ := BB.out
  go_region_held3 (fun w' => w'.cell? ⟨w.heap.size, 0, none⟩ = some (.int .i64 (-1)) ∧ w'.cell? ⟨w.heap.size, 1, none⟩ = some (.bool s) ∧ w'.cell? ⟨w.heap.size, 2, none⟩ = some (.slice x n c) ∧ w'.cell? ⟨w.heap.size, 3, none⟩ = some (.slice y m d) ∧ w'.cell? ⟨w.heap.size + 1, 0, none⟩ = some (.bool true) ∧ w'.cell? ⟨w.heap.size + 1, 1, none⟩ = some (.slice x2 n2 c2) ∧ w'.cell? ⟨w.heap.size + 1, 2, none⟩ = some (.slice y2 m2 d2))
    (refine ⟨?_, ?_, ?_, ?_, ?_, ?_, ?_⟩ <;> repeat (with_reducible first | assumption | refine kCd ?_ | refine kCa ?_ | refine kCb (by assumption) ?_))
    (first
      | (go_at_call 57; with_reducible refine (CN.out _).mono ?_; rintro e v5 ⟨rfl, hb5⟩)
      | (go_at_call 45; with_reducible refine (CAF.out _ _ (by repeat (with_reducible first | exact li2_at _ _ _ _ _ _ _ _ _ _ | refine kLid ?_)) (by repeat (with_reducible first | assumption | exact Below.refl _ _ | refine Below.drew ?_ | refine kBa ?_ | refine kBb (by assumption) ?_))).mono ?_; rintro e v6 ⟨rfl, hb6⟩))
  all_goals
    have hb : Below w1.heap.size w1 v6 := (by repeat (with_reducible first | assumption | exact Below.refl _ _ | refine Below.drew ?_ | refine kBa ?_ | refine kBb (by assumption) ?_))
    have HB6 := hid hb
    clear hb za a0 a1 a2 a3 zb b0 b1 b2
    obtain ⟨za, a0, a1, a2, a3⟩ := BA.out.below HB6.out
    obtain ⟨zb, b0, b1, b2⟩ := BB.out.below HB6.out
    go_wp2_with fail
    refine eIsZero_c.mono ?_
    rintro e w7 ⟨rfl, hb⟩
    rw [hnd]
    have HB7 := hid (HB6.out.trans (hb.mono HB6.out.size))
    clear hb za a0 a1 a2 a3 zb b0 b1 b2
    obtain ⟨za, a0, a1, a2, a3⟩ := BA.out.below HB7.out
    obtain ⟨zb, b0, b1, b2⟩ := BB.out.below HB7.out
    go_wp2_with fail
    refine eInf_c.mono ?_
    rintro e w8 ⟨s8, x8, n8, c8, f8, y8, m8, d8, g8, rfl, hb, hr8⟩
    have HB8 := hid (HW.out.trans ((HB7.out.trans (hb.mono HB7.out.size)).mono HW.out.size)); have OB8 := hid ((OB.out.below HB7.out).below hb); have R8 := hid hr8
    clear hb hr8 za a0 a1 a2 a3 zb b0 b1 b2
    obtain ⟨hz, z0, z1, z2, z3, zf⟩ := OB8.out
    go_wp2
    exact bodyPost_ret (v := .tuple #[.agg #[.int .i64 1, .bool s8, .slice x8 n8 c8, .slice y8 m8 d8], .int .i64 0]) (by simp [results, Tryz.results28, go_sem, z0, z1, z2, z3]) rfl ⟨s8, x8, n8, c8, f8, y8, m8, d8, g8, rfl, below_st4 HB8.out (by omega), ⟨OB8.out.rn R8.out, .inr ⟨by decide, rfl⟩⟩⟩

set_option maxRecDepth 100000 in
set_option maxHeartbeats 4000000 in
theorem eTextHigh_c {w : World} {s : Bool} {x : Option Addr} {n c : Nat} {f : Nat → Int} {y : Option Addr} {m d : Nat} {g : Nat → Int} (h : En 4 w 1 s x n c f y m d g 0) :
    Calls Tryz.prog 30 #[.agg #[.int .i64 1, .bool s, .slice x n c, .slice y m d]] w fun e w' => e = .returned (.tuple #[.string ⟨#[105, 110, 102]⟩, .int .i64 0]) ∧ Below w.heap.size w w' := by
  have BX := hid (bx4_at w (.int .i64 1) (.bool s) (.slice x n c) (.slice y m d) 26)
  have HW := hid (below_alloc (Below.refl w.heap.size w) (.cells #[.int .i64 1, .bool s, .slice x n c, .slice y m d] 26))
  have HE := hid (h.alloc (.cells #[.int .i64 1, .bool s, .slice x n c, .slice y m d] 26))
  have hl1 := h.rn.ln; have hl2 := h.rn.ld
  clear h
  go_enter Tryz.func30, Tryz.ntmps30
  go_upto_region 1 with fail
  generalize w.alloc (.cells #[.int .i64 1, .bool s, .slice x n c, .slice y m d] 26) = w1 at *
  obtain ⟨z, x0, x1, x2, x3⟩ := BX.out
  have cf := fun (t : TypeId) => allForm1_c (bx4_at w1 (.int .i64 1) (.bool s) (.slice x n c) (.slice y m d) t) (HE.out.rn.rw.alloc _) (by omega) (by omega)
  rw [HE.out.ef] at cf
  have CF := hid cf
  clear cf
  go_wp2_with fail
  refine (CF.out _).mono ?_
  rintro e w2 ⟨rfl, hb⟩
  have HB1 : Hid (Below w1.heap.size w1 w2) := (below_alloc (Below.refl _ _) _).trans (hb.mono (by simp))
  have HB := hid (HW.out.trans (HB1.out.mono HW.out.size))
  clear hb z x0 x1 x2 x3 CF
  obtain ⟨z, x0, x1, x2, x3⟩ := BX.out.below HB1.out
  go_wp2
  go_ret2
  exact ⟨rfl, HB.out⟩

theorem q45 : ((3 : Int) : Rat) < ((4 : Int) : Rat) := by decide +kernel
theorem cmp_low {p : Bool} {r er : Int} (h : OC true (-1) 0 0 ((-5 : Int) : Rat) r er) (_hp : p = true) : r = -1 ∧ er = 0 := by
  rcases h with ⟨h1, _⟩ | ⟨_, h1, h2⟩
  · cases h1
  · rcases h2 with ⟨h2, _⟩ | ⟨_, h2, _⟩ | ⟨_, h2 | ⟨h2, _⟩⟩
    · exact ⟨h2, h1⟩
    · omega
    · omega
    · omega
theorem max_34 {k : Int} {q : Rat} (h : EMax 0 ((3 : Int) : Rat) 0 ((4 : Int) : Rat) k q) : k = 0 ∧ q = ((4 : Int) : Rat) := by
  have h0 : EOrd (-1) 0 ((3 : Int) : Rat) 0 ((4 : Int) : Rat) := .inl ⟨rfl, .inr ⟨rfl, q45⟩⟩
  exact h.uniq ⟨-1, h0, .inl ⟨by decide, rfl, rfl⟩⟩
theorem ef_bad : efB 1 false (fun _ => 0) 0 (fun _ => 0) 0 = false := by decide

set_option maxRecDepth 100000 in
set_option maxHeartbeats 4000000 in
theorem eAwake_c (w : World) : Calls Tryz.prog 8 #[] w fun e w' => e = .returned (.bool true) ∧ Below w.heap.size w w' := by
  go_enter Tryz.func8, Tryz.ntmps8
  go_wp2_with fail
  refine eLow_c.mono ?_
  rintro e w1 ⟨aas, aax, aan, aac, aaf, aay, aam, aad, aag, rfl, hb, hr⟩
  have HW1 := hid hb; have L1 := hid hr
  clear hb hr
  go_wp2_with fail
  refine (docOfQ_c (z := -2) (by decide) (by decide)).mono ?_
  rintro e w2 ⟨bbs, bbx, bbn, bbc, bbf, bby, bbm, bbd, bbg, rfl, hb, hr⟩
  have hneg : bbs = true := by
    have h1 := hr.num.sgn
    rw [Rat.num_intCast] at h1
    cases bbs
    · simp [sg] at h1
    · rfl
  subst hneg
  have HW2 := hid (HW1.out.trans (hb.mono HW1.out.size)); have L2 := hid (L1.out.below hb); have R2 := hid hr
  clear hb hr L1 HW1
  go_wp2_with fail
  refine (eScaleLow_c L2.out R2.out).mono ?_
  rintro e w3 ⟨ps, px, pn, pc, pf, py, pm, pd, pg, rfl, hb, HA3⟩
  have HW3 := hid (below_alloc (HW2.out.trans (hb.mono HW2.out.size)) (.cells #[.int .i64 1, .bool ps, .slice px pn pc, .slice py pm pd] 26)); have A3 := hid (HA3.out.alloc (.cells #[.int .i64 1, .bool ps, .slice px pn pc, .slice py pm pd] 26)); have BA3 := hid (bx4_at w3 (.int .i64 1) (.bool ps) (.slice px pn pc) (.slice py pm pd) 26)
  clear hb HA3 HW2 L2 R2
  go_wp2_with fail
  generalize w3.alloc (.cells #[.int .i64 1, .bool ps, .slice px pn pc, .slice py pm pd] 26) = w4 at *
  generalize w3.heap.size = bA at *
  refine eLow_c.mono ?_
  rintro e w5 ⟨a2s, a2x, a2n, a2c, a2f, a2y, a2m, a2d, a2g, rfl, hb, hr⟩
  have HW5 := hid (HW3.out.trans (hb.mono HW3.out.size)); have A5 := hid (A3.out.below hb); have BA5 := hid (BA3.out.below hb); have L5 := hid hr
  clear hb hr HW3 A3 BA3
  go_wp2_with fail
  refine (num4_c (z := -5) (by decide) (by decide)).mono ?_
  rintro e w6 ⟨b2s, b2x, b2n, b2c, b2f, b2y, b2m, b2d, b2g, rfl, hb, H6⟩
  have HW6 := hid (HW5.out.trans (hb.mono HW5.out.size)); have A6 := hid (A5.out.below hb); have BA6 := hid (BA5.out.below hb); have L6 := hid (L5.out.below hb)
  clear hb HW5 A5 BA5 L5
  have l1 := L6.out.rn.ln; have l2 := L6.out.rn.ld; have l3 := H6.out.rn.ln; have l4 := H6.out.rn.ld
  go_wp2_with fail
  refine (eCmp_g L6.out.rn.rw H6.out.rn.rw (by omega) (by omega) (by omega) (by omega) L6.out.ef H6.out.ef (fun _ => L6.out.mono (by omega)) (fun _ => H6.out.mono (by omega))).mono ?_
  rintro e w7 ⟨r7, er7, rfl, hb, H7⟩
  obtain ⟨rfl, rfl⟩ := cmp_low (p := true) H7.out rfl
  have HW7 := hid (HW6.out.trans (hb.mono HW6.out.size)); have A7 := hid (A6.out.below hb); have BA7 := hid (BA6.out.below hb)
  clear hb HW6 A6 BA6 L6 H6 H7 l1 l2 l3 l4
  go_wp2_with fail
  refine eHigh_c.mono ?_
  rintro e w8 ⟨a3s, a3x, a3n, a3c, a3f, a3y, a3m, a3d, a3g, rfl, hb, hr⟩
  have HW8 := hid (HW7.out.trans (hb.mono HW7.out.size)); have A8 := hid (A7.out.below hb); have BA8 := hid (BA7.out.below hb); have L8 := hid hr
  clear hb hr HW7 A7 BA7
  go_wp2_with fail
  refine (eTextHigh_c L8.out).mono ?_
  rintro e w9 ⟨rfl, hb⟩
  have HW9 := hid (HW8.out.trans (hb.mono HW8.out.size)); have A9 := hid (A8.out.below hb); have BA9 := hid (BA8.out.below hb)
  clear hb HW8 A8 BA8 L8
  go_wp2_with fail
  refine (num4_c (z := 3) (by decide) (by decide)).mono ?_
  rintro e w10 ⟨a4s, a4x, a4n, a4c, a4f, a4y, a4m, a4d, a4g, rfl, hb, H10⟩
  have HW10 := hid (HW9.out.trans (hb.mono HW9.out.size)); have A10 := hid (A9.out.below hb); have BA10 := hid (BA9.out.below hb)
  clear hb HW9 A9 BA9
  go_wp2_with fail
  refine (num4_c (z := 4) (by decide) (by decide)).mono ?_
  rintro e w11 ⟨b4s, b4x, b4n, b4c, b4f, b4y, b4m, b4d, b4g, rfl, hb, H11⟩
  have HW11 := hid (HW10.out.trans (hb.mono HW10.out.size)); have A11 := hid (A10.out.below hb); have BA11 := hid (BA10.out.below hb); have L11 := hid (H10.out.below hb)
  clear hb HW10 A10 BA10 H10
  have l1 := L11.out.rn.ln; have l2 := L11.out.rn.ld; have l3 := H11.out.rn.ln; have l4 := H11.out.rn.ld
  go_wp2_with fail
  refine (eMax_g L11.out.rn.rw H11.out.rn.rw (by omega) (by omega) (by omega) (by omega) L11.out.ef H11.out.ef (fun _ => L11.out.mono (by omega)) (fun _ => H11.out.mono (by omega))).mono ?_
  rintro e w12 ⟨ui, us, ux, un, uc, uf, uy, um, ud, ug, uer, rfl, hb, H12⟩
  obtain ⟨rfl, rfl, hB⟩ : ui = 0 ∧ uer = 0 ∧ En 2000 w12 0 us ux un uc uf uy um ud ug ((4 : Int) : Rat) := by
    rcases H12.out with ⟨h1, _⟩ | ⟨_, h1, q, h2, h3⟩
    · cases h1
    · obtain ⟨e1, e2⟩ := max_34 h2
      subst e1 e2
      exact ⟨rfl, h1, h3⟩
  have HW12 := hid (below_alloc (HW11.out.trans (hb.mono HW11.out.size)) (.cells #[.int .i64 0, .bool us, .slice ux un uc, .slice uy um ud] 26)); have A12 := hid ((A11.out.below hb).alloc (.cells #[.int .i64 0, .bool us, .slice ux un uc, .slice uy um ud] 26)); have BA12 := hid ((BA11.out.below hb).alloc (.cells #[.int .i64 0, .bool us, .slice ux un uc, .slice uy um ud] 26)); have B12 := hid (hB.alloc (.cells #[.int .i64 0, .bool us, .slice ux un uc, .slice uy um ud] 26)); have BB12 := hid (bx4_at w12 (.int .i64 0) (.bool us) (.slice ux un uc) (.slice uy um ud) 26)
  clear hb hB H12 HW11 A11 BA11 L11 H11 l1 l2 l3 l4
  go_upto_region 5 with fail
  generalize w12.alloc (.cells #[.int .i64 0, .bool us, .slice ux un uc, .slice uy um ud] 26) = w13 at *
  generalize w12.heap.size = bB at *
  obtain ⟨za, a0, a1, a2, a3⟩ := BA12.out
  obtain ⟨zb, b0, b1, b2, b3⟩ := BB12.out
  have CH1 : Hid (∀ W : World, Calls Tryz.prog 41 #[] W fun e w' => ∃ s x n c f y m d g, e = .returned (.agg #[.int .i64 1, .bool s, .slice x n c, .slice y m d]) ∧ Below W.heap.size W w' ∧ Hid (En 4 w' 1 s x n c f y m d g 0)) := fun W => eHigh_c
  have CL1 : Hid (∀ W : World, Calls Tryz.prog 38 #[] W fun e w' => ∃ s x n c f y m d g, e = .returned (.agg #[.int .i64 (-1), .bool s, .slice x n c, .slice y m d]) ∧ Below W.heap.size W w' ∧ Hid (En 4 w' (-1) s x n c f y m d g 0)) := fun W => eLow_c
  have CN1 : Hid (∀ W : World, Calls Tryz.prog 40 #[.int .i64 4] W fun e w' => ∃ s x n c f y m d g, e = .returned (.agg #[.int .i64 0, .bool s, .slice x n c, .slice y m d]) ∧ Below W.heap.size W w' ∧ Hid (En 4 w' 0 s x n c f y m d g ((4 : Int) : Rat))) := fun W => num4_c (by decide) (by decide)
  have CRL : Hid (∀ W : World, Calls Tryz.prog 43 #[] W fun e w' => ∃ s x n c d y m c' g, e = .returned (.agg #[.int .i64 (-1), .bool s, .slice x n c, .slice y m c']) ∧ Below W.heap.size W w' ∧ Hid (n ≤ 2 ∧ m ≤ 2 ∧ Fn w' (-1) s x n d y m g 0)) := fun W => xLow_c
  have CRH : Hid (∀ W : World, Calls Tryz.prog 44 #[] W fun e w' => ∃ s x n c d y m c' g, e = .returned (.agg #[.int .i64 1, .bool s, .slice x n c, .slice y m c']) ∧ Below W.heap.size W w' ∧ Hid (n ≤ 2 ∧ m ≤ 2 ∧ Fn w' 1 s x n d y m g 0)) := fun W => xHigh_c
  have CTO : Hid (∀ (W : World) (i : Int) (s : Bool) (x : Option Addr) (n c : Nat) (d : Nat → Int) (y : Option Addr) (m e : Nat) (g : Nat → Int), n ≤ 2 → m ≤ 2 → Fn W i s x n d y m g 0 → Calls Tryz.prog 42 #[.agg #[.int .i64 i, .bool s, .slice x n c, .slice y m e]] W fun en w' => ∃ z k c' f z2 k2 c2 f2, en = .returned (.agg #[.int .i64 i, .bool s, .slice z k c', .slice z2 k2 c2]) ∧ Below W.heap.size W w' ∧ Hid (En 4 w' i s z k c' f z2 k2 c2 f2 0)) := fun W i s x n c d y m e g l1 l2 k1 => (xTo_c k1 (by omega) (by omega)).mono (fun _ _ ⟨z, k, c', f, z2, k2, c2, f2, j1, j2, j3⟩ => ⟨z, k, c', f, z2, k2, c2, f2, j1, j2, j3.out.mono (by omega)⟩)
  have CS : Hid (∀ (W : World) (i : Int) (s : Bool) (x : Option Addr) (n c : Nat) (f : Nat → Int) (y : Option Addr) (m d : Nat) (g : Nat → Int) (s' : Bool) (x' : Option Addr) (n' c' : Nat) (f' : Nat → Int) (y' : Option Addr) (m' d' : Nat) (g' : Nat → Int) (q : Rat), En 2000 W i s x n c f y m d g q → En 2000 W i s' x' n' c' f' y' m' d' g' q → Calls Tryz.prog 35 #[.agg #[.int .i64 i, .bool s, .slice x n c, .slice y m d], .agg #[.int .i64 i, .bool s', .slice x' n' c', .slice y' m' d']] W fun e w' => e = .returned (.bool true) ∧ Below W.heap.size W w') := fun W i s x n c f y m d g s' x' n' c' f' y' m' d' g' q k1 k2 => xSame_of (fun W' hW => (rSame_n (k1.below hW).rn (k2.below hW).rn (by omega) (by omega)).mono (fun e w' ⟨j1, j2⟩ => ⟨by rw [j1]; simp, j2⟩))
  have CF : Hid (∀ W : World, Calls Tryz.prog 13 #[.agg #[.int .i64 1, .bool false, .slice none 0 0, .slice none 0 0]] W fun e w' => e = .returned (.bool false) ∧ Below W.heap.size W w') := fun W => by
    have h := eForm_c (i := 1) (s := false) (⟨Rd.zero, (fun j hj => by omega), by omega, (fun _ => by omega), Rd.zero, (fun j hj => by omega), by omega, (fun _ => by omega)⟩ : Rw W none 0 0 (fun _ => 0) none 0 0 (fun _ => 0)) (by omega) (by omega)
    rw [ef_bad] at h
    exact h
  go_wp2
  go_region_held3 (fun w' => w'.cell? ⟨bA, 0, none⟩ = some (.int .i64 1) ∧ w'.cell? ⟨bA, 1, none⟩ = some (.bool ps) ∧ w'.cell? ⟨bA, 2, none⟩ = some (.slice px pn pc) ∧ w'.cell? ⟨bA, 3, none⟩ = some (.slice py pm pd) ∧ w'.cell? ⟨bB, 0, none⟩ = some (.int .i64 0) ∧ w'.cell? ⟨bB, 1, none⟩ = some (.bool us) ∧ w'.cell? ⟨bB, 2, none⟩ = some (.slice ux un uc) ∧ w'.cell? ⟨bB, 3, none⟩ = some (.slice uy um ud))
    (refine ⟨?_, ?_, ?_, ?_, ?_, ?_, ?_, ?_⟩ <;> repeat (with_reducible first | assumption | refine kCd ?_ | refine kCa ?_ | refine kCb (by assumption) ?_))
    (first
      | (go_at_call 41; with_reducible refine (CH1.out _).mono ?_; rintro e v1 ⟨hs, hx, hn, hc, hf, hy, hm, hd, hg, rfl, hv1, HH⟩)
      | (go_at_call 35; with_reducible refine (CS.out _ 1 ps px pn pc pf py pm pd pg hs hx hn hc hf hy hm hd hg 0 (by repeat (with_reducible first | exact A12.out.mono (by omega) | exact A12.out | refine kEnd ?_ | refine kEnb (by assumption) ?_)) (by repeat (with_reducible first | exact HH.out.mono (by omega) | exact HH.out | refine kEnd ?_ | refine kEnb (by assumption) ?_))).mono ?_; rintro e v2 ⟨rfl, hv2⟩)
      | (go_at_call 40; with_reducible refine (CN1.out _).mono ?_; rintro e v3 ⟨ks, kx, kn, kc, kf, ky, km, kd, kg, rfl, hv3, HK⟩)
      | (go_at_call 35; with_reducible refine (CS.out _ 0 us ux un uc uf uy um ud ug ks kx kn kc kf ky km kd kg ((4 : Int) : Rat) (by repeat (with_reducible first | exact B12.out.mono (by omega) | exact B12.out | refine kEnd ?_ | refine kEnb (by assumption) ?_)) (by repeat (with_reducible first | exact HK.out.mono (by omega) | exact HK.out | refine kEnd ?_ | refine kEnb (by assumption) ?_))).mono ?_; rintro e v4 ⟨rfl, hv4⟩)
      | (go_at_call 38; with_reducible refine (CL1.out _).mono ?_; rintro e v5 ⟨ls, lx, ln, lc, lf, ly, lm, ld, lg, rfl, hv5, HL⟩)
      | (go_at_call 43; with_reducible refine (CRL.out _).mono ?_; rintro e v6 ⟨rs, rx, rn, rc, rf, ry, rm, rd, rg, rfl, hv6, HRL⟩)
      | (go_at_call 42; with_reducible refine (CTO.out _ (-1) rs rx rn rc rf ry rm rd rg HRL.out.1 HRL.out.2.1 (by repeat (with_reducible first | exact HRL.out.2.2 | refine kFnd ?_ | refine kFnb (by assumption) ?_))).mono ?_; rintro e v7 ⟨tx, tn, tc, tf, ty, tm, td, tg, rfl, hv7, HT⟩)
      | (go_at_call 35; with_reducible refine (CS.out _ (-1) ls lx ln lc lf ly lm ld lg rs tx tn tc tf ty tm td tg 0 (by repeat (with_reducible first | exact HL.out.mono (by omega) | exact HL.out | refine kEnd ?_ | refine kEnb (by assumption) ?_)) (by repeat (with_reducible first | exact HT.out.mono (by omega) | exact HT.out | refine kEnd ?_ | refine kEnb (by assumption) ?_))).mono ?_; rintro e v8 ⟨rfl, hv8⟩)
      | (go_at_call 44; with_reducible refine (CRH.out _).mono ?_; rintro e v9 ⟨js, jx, jn, jc, jf, jy, jm, jd, jg, rfl, hv9, HRH⟩)
      | (go_at_call 42; with_reducible refine (CTO.out _ 1 js jx jn jc jf jy jm jd jg HRH.out.1 HRH.out.2.1 (by repeat (with_reducible first | exact HRH.out.2.2 | refine kFnd ?_ | refine kFnb (by assumption) ?_))).mono ?_; rintro e v10 ⟨ox, on, oc, of', oy, om, od, og, rfl, hv10, HO⟩)
      | (go_at_call 35; with_reducible refine (CS.out _ 1 hs hx hn hc hf hy hm hd hg js ox on oc of' oy om od og 0 (by repeat (with_reducible first | exact HH.out.mono (by omega) | exact HH.out | refine kEnd ?_ | refine kEnb (by assumption) ?_)) (by repeat (with_reducible first | exact HO.out.mono (by omega) | exact HO.out | refine kEnd ?_ | refine kEnb (by assumption) ?_))).mono ?_; rintro e v11 ⟨rfl, hv11⟩)
      | (go_at_call 13; with_reducible refine (CF.out _).mono ?_; rintro e v12 ⟨rfl, hv12⟩))
  all_goals
    go_wp2
    go_ret
    exact ⟨rfl, HW12.out.trans (Below.mono (by repeat (with_reducible first | assumption | exact Below.refl _ _ | refine Below.drew ?_ | refine kBa ?_ | refine kBb (by assumption) ?_)) HW12.out.size)⟩
end Go.Proofs.YtbindadjepfkcaaGreatDoor
namespace Go.Proofs.YtbindadjepfkcaaGreatDoor
open Go.RowKit

/-- What a call answers that answers a bound, with the error k. -/
def OX (k : Int) (P : Int → Rat → Prop) (w' : World) (i : Int) (s : Bool) (x : Option Addr) (n c : Nat) (f : Nat → Int) (y : Option Addr) (m d : Nat) (g : Nat → Int) (er : Int) : Prop :=
  er = k ∧ (k ≠ 0 ∧ (i = 0 ∧ n = 0 ∧ m = 0 ∧ s = false) ∨ k = 0 ∧ ∃ q, P i q ∧ En 2000 w' i s x n c f y m d g q)
theorem OX.below {k P w w' i s x n c f y m d g er} (h : OX k P w i s x n c f y m d g er) (hb : Below w.heap.size w w') : OX k P w' i s x n c f y m d g er := by
  rcases h with ⟨h0, h | ⟨h1, q, h3, h4⟩⟩
  · exact ⟨h0, .inl h⟩
  · exact ⟨h0, .inr ⟨h1, q, h3, h4.below hb⟩⟩
theorem OX.alloc {k P w i s x n c f y m d g er} (h : OX k P w i s x n c f y m d g er) (o : Obj) : OX k P (w.alloc o) i s x n c f y m d g er := h.below (below_alloc (Below.refl _ _) o)
theorem ox_same {k P w i s x n c f y m d g er i' s' x' n' c' f' y' m' d' g' er'} (hu : ∀ i q i' q', P i q → P i' q' → i = i' ∧ q = q') (h : OX k P w i s x n c f y m d g er) (k' : OX k P w i' s' x' n' c' f' y' m' d' g' er') :
    Calls Tryz.prog 35 #[.agg #[.int .i64 i, .bool s, .slice x n c, .slice y m d], .agg #[.int .i64 i', .bool s', .slice x' n' c', .slice y' m' d']] w fun e w' => e = .returned (.bool true) ∧ Below w.heap.size w w' := by
  rcases h with ⟨_, ⟨h1, h3, h4, h5, h6⟩ | ⟨h1, q, h3, h4⟩⟩ <;> rcases k' with ⟨_, ⟨k1, k3, k4, k5, k6⟩ | ⟨k1, q', k3, k4⟩⟩
  · subst h3 h4 h5 h6 k3 k4 k5 k6
    exact xSame_of (fun W hW => sameNone_c)
  · exact absurd k1 h1
  · exact absurd h1 k1
  · obtain ⟨e1, e2⟩ := hu _ _ _ _ h3 k3
    subst e1 e2
    refine xSame_of (fun W hW => (rSame_n (h4.below hW).rn (k4.below hW).rn (by omega) (by omega)).mono ?_)
    rintro e w' ⟨rfl, hb⟩
    exact ⟨by simp, hb⟩
def MRes (k : Int) (P : Int → Rat → Prop) (w w' : World) (e : Ending) : Prop := ∃ i s x n c f y m d g er, e = .returned (.tuple #[.agg #[.int .i64 i, .bool s, .slice x n c, .slice y m d], .int .i64 er]) ∧ Below w.heap.size w w' ∧ Hid (OX k P w' i s x n c f y m d g er)
def kx (p : Bool) : Int := if p then 0 else 3
theorem ef0 (s : Bool) (f : Nat → Int) (n : Nat) (g : Nat → Int) (m : Nat) : efB 0 s f n g m = rfB s f n g m := by simp [efB]
theorem Rn.en0 {L w s x n c f y m d g q} (h : Rn L w s x n c f y m d g q) : En L w 0 s x n c f y m d g q := ⟨h, .inl rfl⟩
def POf (r : Rat) (j : Int) (q : Rat) : Prop := j = 0 ∧ q = r
def PNeg (i : Int) (a : Rat) (j : Int) (q : Rat) : Prop := j = -i ∧ q = -a
def PShift (i : Int) (a r : Rat) (j : Int) (q : Rat) : Prop := i ≠ 0 ∧ j = i ∧ q = a ∨ i = 0 ∧ j = 0 ∧ q = a + r
def PScale (i : Int) (a r : Rat) (neg : Bool) (j : Int) (q : Rat) : Prop := j = (if neg then -i else i) ∧ q = a * r
theorem POf.uniq {r i q i' q'} (h : POf r i q) (k : POf r i' q') : i = i' ∧ q = q' := ⟨by rw [h.1, k.1], by rw [h.2, k.2]⟩
theorem PNeg.uniq {a b i q i' q'} (h : PNeg a b i q) (k : PNeg a b i' q') : i = i' ∧ q = q' := ⟨by rw [h.1, k.1], by rw [h.2, k.2]⟩
theorem PScale.uniq {a b r s i q i' q'} (h : PScale a b r s i q) (k : PScale a b r s i' q') : i = i' ∧ q = q' := ⟨by rw [h.1, k.1], by rw [h.2, k.2]⟩
theorem PShift.uniq {a b r i q i' q'} (h : PShift a b r i q) (k : PShift a b r i' q') : i = i' ∧ q = q' := by
  rcases h with ⟨h1, h2, h3⟩ | ⟨h1, h2, h3⟩ <;> rcases k with ⟨k1, k2, k3⟩ | ⟨k1, k2, k3⟩
  · exact ⟨by rw [h2, k2], by rw [h3, k3]⟩
  · exact absurd k1 h1
  · exact absurd h1 k1
  · exact ⟨by rw [h2, k2], by rw [h3, k3]⟩

set_option maxRecDepth 100000 in
set_option maxHeartbeats 4000000 in
theorem eOf_g {w : World} {s2 : Bool} {x2 : Option Addr} {n2 c2 : Nat} {f2 : Nat → Int} {y2 : Option Addr} {m2 d2 : Nat} {g2 : Nat → Int} {p : Bool} {r : Rat} (h : Rw w x2 n2 c2 f2 y2 m2 d2 g2) (hn : n2 ≤ 100) (hm : m2 ≤ 100) (hp : rfB s2 f2 n2 g2 m2 = p) (hq : p = true → Rn 100 w s2 x2 n2 c2 f2 y2 m2 d2 g2 r) :
    Calls Tryz.prog 21 #[.agg #[.bool s2, .slice x2 n2 c2, .slice y2 m2 d2]] w fun e w' => MRes (kx p) (POf r) w w' e := by
  have k1 := (bx3_at w (.bool s2) (.slice x2 n2 c2) (.slice y2 m2 d2) 24).alloc (.cells #[.int .i64 0, .bool false, .slice none 0 0, .slice none 0 0] 26)
  have k5 := ob4_new (w.alloc (.cells #[.bool s2, .slice x2 n2 c2, .slice y2 m2 d2] 24)) 26
  rw [size_alloc1] at k5
  have k3 := below_alloc (below_alloc (Below.refl w.heap.size w) (.cells #[.bool s2, .slice x2 n2 c2, .slice y2 m2 d2] 24)) (.cells #[.int .i64 0, .bool false, .slice none 0 0, .slice none 0 0] 26)
  have HR := hid (h.below k3); have HP := hid hp; have HQ := hid (fun k => (hq k).below k3)
  clear h hp hq
  go_enter Tryz.func21, Tryz.ntmps21
  go_upto_region 1 with fail
  generalize (w.alloc (.cells #[.bool s2, .slice x2 n2 c2, .slice y2 m2 d2] 24)).alloc (.cells #[.int .i64 0, .bool false, .slice none 0 0, .slice none 0 0] 26) = w1 at *
  have HW := hid k3; have OB := hid k5; have BB := hid k1
  clear k1 k3 k5
  obtain ⟨zb, b0, b1, b2⟩ := BB.out
  go_wp2_with fail
  refine enumber_c.mono ?_
  rintro e w2 ⟨rfl, hb⟩
  have HB2 := hid hb
  clear hb zb b0 b1 b2
  have cf := fun (t : TypeId) => allForm1_c (i := 0) (bx4_at w2 (.int .i64 0) (.bool s2) (.slice x2 n2 c2) (.slice y2 m2 d2) t) ((HR.out.below HB2.out).alloc _) (by omega) (by omega)
  rw [ef0, HP.out] at cf
  have CF := hid cf
  clear cf
  go_wp2_with fail
  refine (CF.out _).mono ?_
  rintro e w3 ⟨rfl, hb⟩
  have HB3 : Hid (Below w1.heap.size w1 w3) := HB2.out.trans (((below_alloc (Below.refl w2.heap.size w2) _).trans (hb.mono (by simp))).mono HB2.out.size)
  have HB := hid (HW.out.trans (HB3.out.mono HW.out.size))
  clear hb CF
  cases p
  · obtain ⟨hz, z0, z1, z2, z3, zf⟩ := OB.out.below HB3.out
    go_wp2
    exact bodyPost_ret (v := .tuple #[.agg #[.int .i64 0, .bool false, .slice none 0 0, .slice none 0 0], .int .i64 3]) (by simp [results, Tryz.results21, go_sem, z0, z1, z2, z3]) rfl ⟨0, false, none, 0, 0, fun _ => 0, none, 0, 0, fun _ => 0, 3, rfl, below_st4 HB.out (by omega), rfl, .inl ⟨by decide, rfl, rfl, rfl, rfl⟩⟩
  have E3 := hid ((HQ.out rfl).below HB3.out)
  obtain ⟨zb, b0, b1, b2⟩ := BB.out.below HB3.out
  go_wp2_with fail
  refine enumber_c.mono ?_
  rintro e w4 ⟨rfl, hb⟩
  have HB4 := hid (HB3.out.trans (hb.mono HB3.out.size)); have E4 := hid (E3.out.below hb)
  clear hb zb b0 b1 b2
  go_wp2_with fail
  refine (eCopy_c E4.out.en0 (by omega)).mono ?_
  rintro e w5 ⟨s5, x5, n5, c5, f5, y5, m5, d5, g5, rfl, hb, he⟩
  have HB5 := hid (HW.out.trans ((HB4.out.trans (hb.mono HB4.out.size)).mono HW.out.size)); have OB5 := hid ((OB.out.below HB4.out).below hb); have E5 := hid he
  clear hb he
  obtain ⟨hz, z0, z1, z2, z3, zf⟩ := OB5.out
  go_wp2
  exact bodyPost_ret (v := .tuple #[.agg #[.int .i64 0, .bool s5, .slice x5 n5 c5, .slice y5 m5 d5], .int .i64 0]) (by simp [results, Tryz.results21, go_sem, z0, z1, z2, z3]) rfl ⟨0, s5, x5, n5, c5, f5, y5, m5, d5, g5, 0, rfl, below_st4 HB5.out (by omega), rfl, .inr ⟨rfl, r, ⟨rfl, rfl⟩, ⟨OB5.out.rn (E5.out.rn.mono (by omega)), .inl rfl⟩⟩⟩

set_option maxRecDepth 100000 in
set_option maxHeartbeats 4000000 in
theorem eNeg_g {w : World} {i : Int} {s : Bool} {x : Option Addr} {n c : Nat} {f : Nat → Int} {y : Option Addr} {m d : Nat} {g : Nat → Int} {p : Bool} {q : Rat} (h : Rw w x n c f y m d g) (hn : n ≤ 100) (hm : m ≤ 100) (hp : efB i s f n g m = p) (hq : p = true → En 100 w i s x n c f y m d g q) :
    Calls Tryz.prog 24 #[.agg #[.int .i64 i, .bool s, .slice x n c, .slice y m d]] w fun e w' => MRes (kx p) (PNeg i q) w w' e := by
  have k1 := (bx4_at w (.int .i64 i) (.bool s) (.slice x n c) (.slice y m d) 26).alloc (.cells #[.int .i64 0, .bool false, .slice none 0 0, .slice none 0 0] 26)
  have k5 := ob4_new (w.alloc (.cells #[.int .i64 i, .bool s, .slice x n c, .slice y m d] 26)) 26
  rw [size_alloc1] at k5
  have k3 := below_alloc (below_alloc (Below.refl w.heap.size w) (.cells #[.int .i64 i, .bool s, .slice x n c, .slice y m d] 26)) (.cells #[.int .i64 0, .bool false, .slice none 0 0, .slice none 0 0] 26)
  have HR := hid (h.below k3); have HP := hid hp; have HQ := hid (fun k => (hq k).below k3)
  clear h hp hq
  go_enter Tryz.func24, Tryz.ntmps24
  go_upto_region 1 with fail
  generalize (w.alloc (.cells #[.int .i64 i, .bool s, .slice x n c, .slice y m d] 26)).alloc (.cells #[.int .i64 0, .bool false, .slice none 0 0, .slice none 0 0] 26) = w1 at *
  have HW := hid k3; have OB := hid k5; have BB := hid k1
  clear k1 k3 k5
  obtain ⟨zb, b0, b1, b2, b3⟩ := BB.out
  have cf := fun (t : TypeId) => allForm1_c (i := i) (bx4_at w1 (.int .i64 i) (.bool s) (.slice x n c) (.slice y m d) t) (HR.out.alloc _) (by omega) (by omega)
  rw [HP.out] at cf
  have CF := hid cf
  clear cf
  go_wp2_with fail
  refine (CF.out _).mono ?_
  rintro e w3 ⟨rfl, hb⟩
  have HB3 : Hid (Below w1.heap.size w1 w3) := (below_alloc (Below.refl w1.heap.size w1) _).trans (hb.mono (by simp))
  have HB := hid (HW.out.trans (HB3.out.mono HW.out.size))
  clear hb CF zb b0 b1 b2 b3
  cases p
  · obtain ⟨hz, z0, z1, z2, z3, zf⟩ := OB.out.below HB3.out
    go_wp2
    exact bodyPost_ret (v := .tuple #[.agg #[.int .i64 0, .bool false, .slice none 0 0, .slice none 0 0], .int .i64 3]) (by simp [results, Tryz.results24, go_sem, z0, z1, z2, z3]) rfl ⟨0, false, none, 0, 0, fun _ => 0, none, 0, 0, fun _ => 0, 3, rfl, below_st4 HB.out (by omega), rfl, .inl ⟨by decide, rfl, rfl, rfl, rfl⟩⟩
  have E3 := hid ((HQ.out rfl).below HB3.out)
  have OB3 := hid (OB.out.below HB3.out)
  obtain ⟨zb, b0, b1, b2, b3⟩ := BB.out.below HB3.out
  have hi3 : i = 0 ∨ (i = -1 ∨ i = 1) ∧ q = 0 := E3.out.inf
  rcases hi3 with rfl | ⟨rfl | rfl, hq0⟩
  · go_wp2_with fail
    refine (rNeg_n E3.out.rn (by omega)).mono ?_
    rintro e w4 ⟨s4, x4, n4, c4, f4, y4, m4, d4, g4, rfl, hb, hr⟩
    have HB4 := hid (below_alloc (HB.out.trans (hb.mono HB.out.size)) (.cells #[.bool s4, .slice x4 n4 c4, .slice y4 m4 d4] 24)); have OB4 := hid ((OB3.out.below hb).alloc (.cells #[.bool s4, .slice x4 n4 c4, .slice y4 m4 d4] 24)); have R4 := hid (hr.alloc (.cells #[.bool s4, .slice x4 n4 c4, .slice y4 m4 d4] 24)); have BX4 := hid (bx3_at w4 (.bool s4) (.slice x4 n4 c4) (.slice y4 m4 d4) 24)
    clear hb hr zb b0 b1 b2 b3
    obtain ⟨zx, x0, x1, x2'⟩ := BX4.out
    go_wp2_with fail
    generalize w4.alloc (.cells #[.bool s4, .slice x4 n4 c4, .slice y4 m4 d4] 24) = w5 at *
    generalize w4.heap.size = b5 at *
    refine enumber_c.mono ?_
    rintro e w6 ⟨rfl, hb⟩
    have HB6 := hid (HB4.out.trans (hb.mono HB4.out.size)); have OB6 := hid (OB4.out.below hb); have R6 := hid (R4.out.below hb)
    clear hb zx x0 x1 x2'
    obtain ⟨hz, z0, z1, z2, z3, zf⟩ := OB6.out
    go_wp2
    exact bodyPost_ret (v := .tuple #[.agg #[.int .i64 0, .bool s4, .slice x4 n4 c4, .slice y4 m4 d4], .int .i64 0]) (by simp [results, Tryz.results24, go_sem, z0, z1, z2, z3]) rfl ⟨0, s4, x4, n4, c4, f4, y4, m4, d4, g4, 0, rfl, below_st4 HB6.out (by omega), rfl, .inr ⟨rfl, -q, ⟨rfl, rfl⟩, ⟨OB6.out.rn (R6.out.mono (by omega)), .inl rfl⟩⟩⟩
  all_goals
    have HQ0 : Hid (-q = 0) := by show -q = 0; rw [hq0]; exact Rat.neg_zero
    clear hq0
    go_wp2_with fail
    refine eInf_c.mono ?_
    rintro e w4 ⟨s4, x4, n4, c4, f4, y4, m4, d4, g4, rfl, hb, hr⟩
    have HB4 := hid (HB.out.trans (hb.mono HB.out.size)); have OB4 := hid (OB3.out.below hb); have R4 := hid hr
    clear hb hr zb b0 b1 b2 b3
    obtain ⟨hz, z0, z1, z2, z3, zf⟩ := OB4.out
    go_wp2
    first
      | exact bodyPost_ret (v := .tuple #[.agg #[.int .i64 1, .bool s4, .slice x4 n4 c4, .slice y4 m4 d4], .int .i64 0]) (by simp [results, Tryz.results24, go_sem, z0, z1, z2, z3]) rfl ⟨1, s4, x4, n4, c4, f4, y4, m4, d4, g4, 0, rfl, below_st4 HB4.out (by omega), rfl, .inr ⟨rfl, 0, ⟨rfl, HQ0.out.symm⟩, ⟨OB4.out.rn (R4.out.mono (by omega)), .inr ⟨by decide, rfl⟩⟩⟩⟩
      | exact bodyPost_ret (v := .tuple #[.agg #[.int .i64 (-1), .bool s4, .slice x4 n4 c4, .slice y4 m4 d4], .int .i64 0]) (by simp [results, Tryz.results24, go_sem, z0, z1, z2, z3]) rfl ⟨-1, s4, x4, n4, c4, f4, y4, m4, d4, g4, 0, rfl, below_st4 HB4.out (by omega), rfl, .inr ⟨rfl, 0, ⟨rfl, HQ0.out.symm⟩, ⟨OB4.out.rn (R4.out.mono (by omega)), .inr ⟨by decide, rfl⟩⟩⟩⟩

set_option maxRecDepth 100000 in
set_option maxHeartbeats 4000000 in
theorem eShift_g {w : World} {i : Int} {s : Bool} {x : Option Addr} {n c : Nat} {f : Nat → Int} {y : Option Addr} {m d : Nat} {g : Nat → Int} {s2 : Bool} {x2 : Option Addr} {n2 c2 : Nat} {f2 : Nat → Int} {y2 : Option Addr} {m2 d2 : Nat} {g2 : Nat → Int} {p1 p2 : Bool} {q r : Rat} (h1 : Rw w x n c f y m d g) (h2 : Rw w x2 n2 c2 f2 y2 m2 d2 g2) (hn : n ≤ 100) (hm : m ≤ 100) (hn2 : n2 ≤ 100) (hm2 : m2 ≤ 100) (hp1 : efB i s f n g m = p1) (hp2 : rfB s2 f2 n2 g2 m2 = p2) (hq1 : p1 = true → En 100 w i s x n c f y m d g q) (hq2 : p2 = true → Rn 100 w s2 x2 n2 c2 f2 y2 m2 d2 g2 r) :
    Calls Tryz.prog 26 #[.agg #[.int .i64 i, .bool s, .slice x n c, .slice y m d], .agg #[.bool s2, .slice x2 n2 c2, .slice y2 m2 d2]] w fun e w' => MRes (kx (p1 && p2)) (PShift i q r) w w' e := by
  have k1 := ((bx4_at w (.int .i64 i) (.bool s) (.slice x n c) (.slice y m d) 26).alloc (.cells #[.bool s2, .slice x2 n2 c2, .slice y2 m2 d2] 24)).alloc (.cells #[.int .i64 0, .bool false, .slice none 0 0, .slice none 0 0] 26)
  have k2 := (bx3_at (w.alloc (.cells #[.int .i64 i, .bool s, .slice x n c, .slice y m d] 26)) (.bool s2) (.slice x2 n2 c2) (.slice y2 m2 d2) 24).alloc (.cells #[.int .i64 0, .bool false, .slice none 0 0, .slice none 0 0] 26)
  rw [size_alloc1] at k2
  have k5 := ob4_new ((w.alloc (.cells #[.int .i64 i, .bool s, .slice x n c, .slice y m d] 26)).alloc (.cells #[.bool s2, .slice x2 n2 c2, .slice y2 m2 d2] 24)) 26
  rw [size_alloc1, size_alloc1] at k5
  have k3 := below_alloc (below_alloc (below_alloc (Below.refl w.heap.size w) (.cells #[.int .i64 i, .bool s, .slice x n c, .slice y m d] 26)) (.cells #[.bool s2, .slice x2 n2 c2, .slice y2 m2 d2] 24)) (.cells #[.int .i64 0, .bool false, .slice none 0 0, .slice none 0 0] 26)
  have HR1 := hid (h1.below k3); have HR2 := hid (h2.below k3); have HP1 := hid hp1; have HP2 := hid hp2; have HQ1 := hid (fun k => (hq1 k).below k3); have HQ2 := hid (fun k => (hq2 k).below k3)
  clear h1 h2 hp1 hp2 hq1 hq2
  go_enter Tryz.func26, Tryz.ntmps26
  go_upto_region 1 with fail
  generalize ((w.alloc (.cells #[.int .i64 i, .bool s, .slice x n c, .slice y m d] 26)).alloc (.cells #[.bool s2, .slice x2 n2 c2, .slice y2 m2 d2] 24)).alloc (.cells #[.int .i64 0, .bool false, .slice none 0 0, .slice none 0 0] 26) = w1 at *
  have HW := hid k3; have OB := hid k5; have BA := hid k1; have BB := hid k2
  clear k1 k2 k3 k5
  obtain ⟨pp, hpp⟩ : ∃ pp, (p1 && p2) = pp := ⟨_, rfl⟩
  have HPP := hid hpp
  have CN : Hid (∀ W : World, Calls Tryz.prog 57 #[.agg #[.bool s2, .slice x2 n2 c2, .slice y2 m2 d2]] W fun e w' => e = .returned (.agg #[.int .i64 0, .bool s2, .slice x2 n2 c2, .slice y2 m2 d2]) ∧ Below W.heap.size W w') := fun W => enumber_c
  have CAF : Hid (∀ (W : World) (B : Nat), Li2 W B (.int .i64 i) (.bool s) (.slice x n c) (.slice y m d) (.int .i64 0) (.bool s2) (.slice x2 n2 c2) (.slice y2 m2 d2) → Below w1.heap.size w1 W → Calls Tryz.prog 45 #[.slice (some ⟨B, 0, none⟩) 2 2] W fun e w' => e = .returned (.bool pp) ∧ Below W.heap.size W w') := fun W B hB hW => by
    have := allForm2_c hB (HR1.out.below hW) (HR2.out.below hW) (by omega) (by omega) (by omega) (by omega)
    rw [ef0, HP1.out, HP2.out, HPP.out] at this
    exact this
  clear hpp
  go_cut [13] from 8 to 12 (fun u wx => ∃ (wy : World), wy = wx ∧ u = .bool (!pp) ∧ Below w1.heap.size w1 wy)
  case first =>
    obtain ⟨za, a0, a1, a2, a3⟩ := BA.out
    obtain ⟨zb, b0, b1, b2⟩ := BB.out
    go_region_held3 (fun w' => w'.cell? ⟨w.heap.size, 0, none⟩ = some (.int .i64 i) ∧ w'.cell? ⟨w.heap.size, 1, none⟩ = some (.bool s) ∧ w'.cell? ⟨w.heap.size, 2, none⟩ = some (.slice x n c) ∧ w'.cell? ⟨w.heap.size, 3, none⟩ = some (.slice y m d) ∧ w'.cell? ⟨w.heap.size + 1, 0, none⟩ = some (.bool s2) ∧ w'.cell? ⟨w.heap.size + 1, 1, none⟩ = some (.slice x2 n2 c2) ∧ w'.cell? ⟨w.heap.size + 1, 2, none⟩ = some (.slice y2 m2 d2))
      (refine ⟨?_, ?_, ?_, ?_, ?_, ?_, ?_⟩ <;> repeat (with_reducible first | assumption | refine kCd ?_ | refine kCa ?_ | refine kCb (by assumption) ?_))
      (first
        | (go_at_call 57; with_reducible refine (CN.out _).mono ?_; rintro e v5 ⟨rfl, hb5⟩)
        | (go_at_call 45; with_reducible refine (CAF.out _ _ (by repeat (with_reducible first | exact li2_at _ _ _ _ _ _ _ _ _ _ | refine kLid ?_)) (by repeat (with_reducible first | assumption | exact Below.refl _ _ | refine Below.drew ?_ | refine kBa ?_ | refine kBb (by assumption) ?_))).mono ?_; rintro e v6 ⟨rfl, hb6⟩))
    all_goals
      go_wp2_with fail
      go_meet
      exact ⟨_, rfl, rfl, (by repeat (with_reducible first | assumption | exact Below.refl _ _ | refine Below.drew ?_ | refine kBa ?_ | refine kBb (by assumption) ?_))⟩
  case rest =>
    obtain ⟨w3, rfl, rfl, hb⟩ := hcut
    have HB3 := hid hb
    have HB := hid (HW.out.trans (HB3.out.mono HW.out.size))
    have OB3 := hid (OB.out.below HB3.out)
    clear hb CN CAF
    cases pp
    · obtain ⟨hz, z0, z1, z2, z3, zf⟩ := OB3.out
      go_wp2
      exact bodyPost_ret (v := .tuple #[.agg #[.int .i64 0, .bool false, .slice none 0 0, .slice none 0 0], .int .i64 3]) (by simp [results, Tryz.results26, go_sem, z0, z1, z2, z3]) rfl ⟨0, false, none, 0, 0, fun _ => 0, none, 0, 0, fun _ => 0, 3, rfl, below_st4 HB.out (by omega), by rw [HPP.out]; rfl, .inl ⟨by rw [HPP.out]; exact (by decide : (3 : Int) ≠ 0), rfl, rfl, rfl, rfl⟩⟩
    have hpq : p1 = true ∧ p2 = true := by simpa using HPP.out
    have E3 := hid ((HQ1.out hpq.1).below HB3.out); have S3 := hid ((HQ2.out hpq.2).below HB3.out)
    have hi3 : i = 0 ∨ (i = -1 ∨ i = 1) ∧ q = 0 := E3.out.inf
    clear hpq
    obtain ⟨za, a0, a1, a2, a3⟩ := BA.out.below HB3.out
    obtain ⟨zb, b0, b1, b2⟩ := BB.out.below HB3.out
    rcases hi3 with rfl | ⟨hi, hq0⟩
    · go_wp2_with fail
      refine (rAdd_n E3.out.rn S3.out (by omega)).mono ?_
      rintro e w4 ⟨s4, x4, n4, c4, f4, y4, m4, d4, g4, rfl, hb, hr⟩
      have HB4 := hid (below_alloc (HB.out.trans (hb.mono HB.out.size)) (.cells #[.bool s4, .slice x4 n4 c4, .slice y4 m4 d4] 24)); have OB4 := hid ((OB3.out.below hb).alloc (.cells #[.bool s4, .slice x4 n4 c4, .slice y4 m4 d4] 24)); have R4 := hid (hr.alloc (.cells #[.bool s4, .slice x4 n4 c4, .slice y4 m4 d4] 24)); have BX4 := hid (bx3_at w4 (.bool s4) (.slice x4 n4 c4) (.slice y4 m4 d4) 24)
      clear hb hr za a0 a1 a2 a3 zb b0 b1 b2
      obtain ⟨zx, x0, x1, x2'⟩ := BX4.out
      go_wp2_with fail
      generalize w4.alloc (.cells #[.bool s4, .slice x4 n4 c4, .slice y4 m4 d4] 24) = w5 at *
      generalize w4.heap.size = b5 at *
      refine enumber_c.mono ?_
      rintro e w6 ⟨rfl, hb⟩
      have HB6 := hid (HB4.out.trans (hb.mono HB4.out.size)); have OB6 := hid (OB4.out.below hb); have R6 := hid (R4.out.below hb)
      clear hb zx x0 x1 x2'
      obtain ⟨hz, z0, z1, z2, z3, zf⟩ := OB6.out
      go_wp2
      exact bodyPost_ret (v := .tuple #[.agg #[.int .i64 0, .bool s4, .slice x4 n4 c4, .slice y4 m4 d4], .int .i64 0]) (by simp [results, Tryz.results26, go_sem, z0, z1, z2, z3]) rfl ⟨0, s4, x4, n4, c4, f4, y4, m4, d4, g4, 0, rfl, below_st4 HB6.out (by omega), by rw [HPP.out]; rfl, .inr ⟨by rw [HPP.out]; rfl, q + r, .inr ⟨rfl, rfl, rfl⟩, ⟨OB6.out.rn (R6.out.mono (by omega)), .inl rfl⟩⟩⟩
    · have hne : (i != 0) = true := by simp; omega
      have HI := hid hi; have HQ0 := hid hq0
      clear hi hq0
      go_wp2_with fail
      refine eInf_c.mono ?_
      rintro e w4 ⟨s4, x4, n4, c4, f4, y4, m4, d4, g4, rfl, hb, hr⟩
      have HB4 := hid (HB.out.trans (hb.mono HB.out.size)); have OB4 := hid (OB3.out.below hb); have R4 := hid hr
      clear hb hr za a0 a1 a2 a3 zb b0 b1 b2
      obtain ⟨hz, z0, z1, z2, z3, zf⟩ := OB4.out
      go_wp2
      exact bodyPost_ret (v := .tuple #[.agg #[.int .i64 i, .bool s4, .slice x4 n4 c4, .slice y4 m4 d4], .int .i64 0]) (by simp [results, Tryz.results26, go_sem, z0, z1, z2, z3]) rfl ⟨i, s4, x4, n4, c4, f4, y4, m4, d4, g4, 0, rfl, below_st4 HB4.out (by omega), by rw [HPP.out]; rfl, .inr ⟨by rw [HPP.out]; rfl, 0, .inl ⟨by have := HI.out; omega, rfl, HQ0.out.symm⟩, ⟨OB4.out.rn (R4.out.mono (by omega)), .inr ⟨HI.out, rfl⟩⟩⟩⟩

def ks (p : Bool) (n2 : Nat) : Int := if p then (if n2 = 0 then 4 else 0) else 3

set_option maxRecDepth 100000 in
set_option maxHeartbeats 4000000 in
theorem eScale_g {w : World} {i : Int} {s : Bool} {x : Option Addr} {n c : Nat} {f : Nat → Int} {y : Option Addr} {m d : Nat} {g : Nat → Int} {s2 : Bool} {x2 : Option Addr} {n2 c2 : Nat} {f2 : Nat → Int} {y2 : Option Addr} {m2 d2 : Nat} {g2 : Nat → Int} {p1 p2 : Bool} {q r : Rat} (h1 : Rw w x n c f y m d g) (h2 : Rw w x2 n2 c2 f2 y2 m2 d2 g2) (hn : n ≤ 100) (hm : m ≤ 100) (hn2 : n2 ≤ 100) (hm2 : m2 ≤ 100) (hp1 : efB i s f n g m = p1) (hp2 : rfB s2 f2 n2 g2 m2 = p2) (hq1 : p1 = true → En 100 w i s x n c f y m d g q) (hq2 : p2 = true → Rn 100 w s2 x2 n2 c2 f2 y2 m2 d2 g2 r) :
    Calls Tryz.prog 28 #[.agg #[.int .i64 i, .bool s, .slice x n c, .slice y m d], .agg #[.bool s2, .slice x2 n2 c2, .slice y2 m2 d2]] w fun e w' => MRes (ks (p1 && p2) n2) (PScale i q r s2) w w' e := by
  have k1 := ((bx4_at w (.int .i64 i) (.bool s) (.slice x n c) (.slice y m d) 26).alloc (.cells #[.bool s2, .slice x2 n2 c2, .slice y2 m2 d2] 24)).alloc (.cells #[.int .i64 0, .bool false, .slice none 0 0, .slice none 0 0] 26)
  have k2 := (bx3_at (w.alloc (.cells #[.int .i64 i, .bool s, .slice x n c, .slice y m d] 26)) (.bool s2) (.slice x2 n2 c2) (.slice y2 m2 d2) 24).alloc (.cells #[.int .i64 0, .bool false, .slice none 0 0, .slice none 0 0] 26)
  rw [size_alloc1] at k2
  have k5 := ob4_new ((w.alloc (.cells #[.int .i64 i, .bool s, .slice x n c, .slice y m d] 26)).alloc (.cells #[.bool s2, .slice x2 n2 c2, .slice y2 m2 d2] 24)) 26
  rw [size_alloc1, size_alloc1] at k5
  have k3 := below_alloc (below_alloc (below_alloc (Below.refl w.heap.size w) (.cells #[.int .i64 i, .bool s, .slice x n c, .slice y m d] 26)) (.cells #[.bool s2, .slice x2 n2 c2, .slice y2 m2 d2] 24)) (.cells #[.int .i64 0, .bool false, .slice none 0 0, .slice none 0 0] 26)
  have HR1 := hid (h1.below k3); have HR2 := hid (h2.below k3); have HP1 := hid hp1; have HP2 := hid hp2; have HQ1 := hid (fun k => (hq1 k).below k3); have HQ2 := hid (fun k => (hq2 k).below k3)
  clear h1 h2 hp1 hp2 hq1 hq2
  go_enter Tryz.func28, Tryz.ntmps28
  go_upto_region 1 with fail
  generalize ((w.alloc (.cells #[.int .i64 i, .bool s, .slice x n c, .slice y m d] 26)).alloc (.cells #[.bool s2, .slice x2 n2 c2, .slice y2 m2 d2] 24)).alloc (.cells #[.int .i64 0, .bool false, .slice none 0 0, .slice none 0 0] 26) = w1 at *
  have HW := hid k3; have OB := hid k5; have BA := hid k1; have BB := hid k2
  clear k1 k2 k3 k5
  obtain ⟨pp, hpp⟩ : ∃ pp, (p1 && p2) = pp := ⟨_, rfl⟩
  have HPP := hid hpp
  have CN : Hid (∀ W : World, Calls Tryz.prog 57 #[.agg #[.bool s2, .slice x2 n2 c2, .slice y2 m2 d2]] W fun e w' => e = .returned (.agg #[.int .i64 0, .bool s2, .slice x2 n2 c2, .slice y2 m2 d2]) ∧ Below W.heap.size W w') := fun W => enumber_c
  have CAF : Hid (∀ (W : World) (B : Nat), Li2 W B (.int .i64 i) (.bool s) (.slice x n c) (.slice y m d) (.int .i64 0) (.bool s2) (.slice x2 n2 c2) (.slice y2 m2 d2) → Below w1.heap.size w1 W → Calls Tryz.prog 45 #[.slice (some ⟨B, 0, none⟩) 2 2] W fun e w' => e = .returned (.bool pp) ∧ Below W.heap.size W w') := fun W B hB hW => by
    have := allForm2_c hB (HR1.out.below hW) (HR2.out.below hW) (by omega) (by omega) (by omega) (by omega)
    rw [ef0, HP1.out, HP2.out, HPP.out] at this
    exact this
  clear hpp
  go_cut [8] from 9 to 14 (fun u wx => ∃ (wy : World), wy = wx ∧ u = .bool (!pp) ∧ Below w1.heap.size w1 wy)
  case first =>
    obtain ⟨za, a0, a1, a2, a3⟩ := BA.out
    obtain ⟨zb, b0, b1, b2⟩ := BB.out
    go_region_held3 (fun w' => w'.cell? ⟨w.heap.size, 0, none⟩ = some (.int .i64 i) ∧ w'.cell? ⟨w.heap.size, 1, none⟩ = some (.bool s) ∧ w'.cell? ⟨w.heap.size, 2, none⟩ = some (.slice x n c) ∧ w'.cell? ⟨w.heap.size, 3, none⟩ = some (.slice y m d) ∧ w'.cell? ⟨w.heap.size + 1, 0, none⟩ = some (.bool s2) ∧ w'.cell? ⟨w.heap.size + 1, 1, none⟩ = some (.slice x2 n2 c2) ∧ w'.cell? ⟨w.heap.size + 1, 2, none⟩ = some (.slice y2 m2 d2))
      (refine ⟨?_, ?_, ?_, ?_, ?_, ?_, ?_⟩ <;> repeat (with_reducible first | assumption | refine kCd ?_ | refine kCa ?_ | refine kCb (by assumption) ?_))
      (first
        | (go_at_call 57; with_reducible refine (CN.out _).mono ?_; rintro e v5 ⟨rfl, hb5⟩)
        | (go_at_call 45; with_reducible refine (CAF.out _ _ (by repeat (with_reducible first | exact li2_at _ _ _ _ _ _ _ _ _ _ | refine kLid ?_)) (by repeat (with_reducible first | assumption | exact Below.refl _ _ | refine Below.drew ?_ | refine kBa ?_ | refine kBb (by assumption) ?_))).mono ?_; rintro e v6 ⟨rfl, hb6⟩))
    all_goals
      go_wp2_with fail
      go_meet
      exact ⟨_, rfl, rfl, (by repeat (with_reducible first | assumption | exact Below.refl _ _ | refine Below.drew ?_ | refine kBa ?_ | refine kBb (by assumption) ?_))⟩
  case rest =>
    obtain ⟨w3, rfl, rfl, hb⟩ := hcut
    have HB3 := hid hb
    have HB := hid (HW.out.trans (HB3.out.mono HW.out.size))
    have OB3 := hid (OB.out.below HB3.out)
    clear hb CN CAF
    cases pp
    · obtain ⟨hz, z0, z1, z2, z3, zf⟩ := OB3.out
      go_wp2
      exact bodyPost_ret (v := .tuple #[.agg #[.int .i64 0, .bool false, .slice none 0 0, .slice none 0 0], .int .i64 3]) (by simp [results, Tryz.results28, go_sem, z0, z1, z2, z3]) rfl ⟨0, false, none, 0, 0, fun _ => 0, none, 0, 0, fun _ => 0, 3, rfl, below_st4 HB.out (by omega), by rw [HPP.out]; rfl, .inl ⟨by rw [HPP.out]; exact (by decide : (3 : Int) ≠ 0), rfl, rfl, rfl, rfl⟩⟩
    have hpq : p1 = true ∧ p2 = true := by simpa using HPP.out
    have E3 := hid ((HQ1.out hpq.1).below HB3.out); have S3 := hid ((HQ2.out hpq.2).below HB3.out)
    have hi3 : i = 0 ∨ (i = -1 ∨ i = 1) ∧ q = 0 := E3.out.inf
    clear hpq
    obtain ⟨za, a0, a1, a2, a3⟩ := BA.out.below HB3.out
    obtain ⟨zb, b0, b1, b2⟩ := BB.out.below HB3.out
    go_wp2_with fail
    refine eIsZero_c.mono ?_
    rintro e w7 ⟨rfl, hb⟩
    have HB7 := hid (HB.out.trans (hb.mono HB.out.size)); have HB37 := hid (HB3.out.trans (hb.mono HB3.out.size)); have OB7 := hid (OB3.out.below hb); have E7 := hid (E3.out.below hb); have S7 := hid (S3.out.below hb)
    clear hb za a0 a1 a2 a3 zb b0 b1 b2 HB OB3 E3 S3
    by_cases hz2 : n2 = 0
    · rw [decide_eq_true hz2]
      have HK : Hid (ks (p1 && p2) n2 = 4) := by show ks (p1 && p2) n2 = 4; rw [HPP.out, ks, if_pos rfl, if_pos hz2]
      clear hz2
      obtain ⟨hz, z0, z1, z2, z3, zf⟩ := OB7.out
      go_wp2
      exact bodyPost_ret (v := .tuple #[.agg #[.int .i64 0, .bool false, .slice none 0 0, .slice none 0 0], .int .i64 4]) (by simp [results, Tryz.results28, go_sem, z0, z1, z2, z3]) rfl ⟨0, false, none, 0, 0, fun _ => 0, none, 0, 0, fun _ => 0, 4, rfl, below_st4 HB7.out (by omega), HK.out.symm, .inl ⟨by rw [HK.out]; decide, rfl, rfl, rfl, rfl⟩⟩
    rw [decide_eq_false hz2]
    have HK : Hid (ks (p1 && p2) n2 = 0) := by show ks (p1 && p2) n2 = 0; rw [HPP.out, ks, if_pos rfl, if_neg hz2]
    clear hz2
    obtain ⟨za, a0, a1, a2, a3⟩ := BA.out.below HB37.out
    obtain ⟨zb, b0, b1, b2⟩ := BB.out.below HB37.out
    rcases hi3 with rfl | ⟨hi, hq0⟩
    · go_wp2_with fail
      refine (rMul_n E7.out.rn S7.out (by omega)).mono ?_
      rintro e w4 ⟨s4, x4, n4, c4, f4, y4, m4, d4, g4, rfl, hb, hr⟩
      have HB4 := hid (below_alloc (HB7.out.trans (hb.mono HB7.out.size)) (.cells #[.bool s4, .slice x4 n4 c4, .slice y4 m4 d4] 24)); have OB4 := hid ((OB7.out.below hb).alloc (.cells #[.bool s4, .slice x4 n4 c4, .slice y4 m4 d4] 24)); have R4 := hid (hr.alloc (.cells #[.bool s4, .slice x4 n4 c4, .slice y4 m4 d4] 24)); have BX4 := hid (bx3_at w4 (.bool s4) (.slice x4 n4 c4) (.slice y4 m4 d4) 24)
      clear hb hr za a0 a1 a2 a3 zb b0 b1 b2
      obtain ⟨zx, x0, x1, x2'⟩ := BX4.out
      go_wp2_with fail
      generalize w4.alloc (.cells #[.bool s4, .slice x4 n4 c4, .slice y4 m4 d4] 24) = w5 at *
      generalize w4.heap.size = b5 at *
      refine enumber_c.mono ?_
      rintro e w6 ⟨rfl, hb⟩
      have HB6 := hid (HB4.out.trans (hb.mono HB4.out.size)); have OB6 := hid (OB4.out.below hb); have R6 := hid (R4.out.below hb)
      clear hb zx x0 x1 x2'
      obtain ⟨hz, z0, z1, z2, z3, zf⟩ := OB6.out
      go_wp2
      exact bodyPost_ret (v := .tuple #[.agg #[.int .i64 0, .bool s4, .slice x4 n4 c4, .slice y4 m4 d4], .int .i64 0]) (by simp [results, Tryz.results28, go_sem, z0, z1, z2, z3]) rfl ⟨0, s4, x4, n4, c4, f4, y4, m4, d4, g4, 0, rfl, below_st4 HB6.out (by omega), HK.out.symm, .inr ⟨HK.out, q * r, ⟨by cases s2 <;> rfl, rfl⟩, ⟨OB6.out.rn (R6.out.mono (by omega)), .inl rfl⟩⟩⟩
    have HQ0 : Hid ((0 : Rat) = q * r) := by show (0 : Rat) = q * r; rw [hq0, Rat.zero_mul]
    clear hq0
    rcases hi with rfl | rfl <;> cases s2
    all_goals
      go_wp2_with fail
      refine eInf_c.mono ?_
      rintro e w4 ⟨s4, x4, n4, c4, f4, y4, m4, d4, g4, rfl, hb, hr⟩
      have HB4 := hid (HB7.out.trans (hb.mono HB7.out.size)); have OB4 := hid (OB7.out.below hb); have R4 := hid hr
      clear hb hr za a0 a1 a2 a3 zb b0 b1 b2
      obtain ⟨hz, z0, z1, z2, z3, zf⟩ := OB4.out
      go_wp2
      first
        | exact bodyPost_ret (v := .tuple #[.agg #[.int .i64 1, .bool s4, .slice x4 n4 c4, .slice y4 m4 d4], .int .i64 0]) (by simp [results, Tryz.results28, go_sem, z0, z1, z2, z3]) rfl ⟨1, s4, x4, n4, c4, f4, y4, m4, d4, g4, 0, rfl, below_st4 HB4.out (by omega), HK.out.symm, .inr ⟨HK.out, 0, ⟨rfl, HQ0.out⟩, ⟨OB4.out.rn (R4.out.mono (by omega)), .inr ⟨by decide, rfl⟩⟩⟩⟩
        | exact bodyPost_ret (v := .tuple #[.agg #[.int .i64 (-1), .bool s4, .slice x4 n4 c4, .slice y4 m4 d4], .int .i64 0]) (by simp [results, Tryz.results28, go_sem, z0, z1, z2, z3]) rfl ⟨-1, s4, x4, n4, c4, f4, y4, m4, d4, g4, 0, rfl, below_st4 HB4.out (by omega), HK.out.symm, .inr ⟨HK.out, 0, ⟨rfl, HQ0.out⟩, ⟨OB4.out.rn (R4.out.mono (by omega)), .inr ⟨by decide, rfl⟩⟩⟩⟩
end Go.Proofs.YtbindadjepfkcaaGreatDoor
namespace Go.Proofs.YtbindadjepfkcaaGreatDoor
open Go.RowKit

theorem eord_shift {i j c i' j' : Int} {a b r a' b' : Rat} (h1 : PShift i a r i' a') (h2 : PShift j b r j' b') (h : EOrd c i a j b) : EOrd c i' a' j' b' := by
  have e1 : i' = i := by rcases h1 with ⟨_, k, _⟩ | ⟨k1, k2, _⟩ <;> omega
  have e2 : j' = j := by rcases h2 with ⟨_, k, _⟩ | ⟨k1, k2, _⟩ <;> omega
  have key : i = j → (a < b → a' < b') ∧ (a = b → a' = b') ∧ (b < a → b' < a') := by
    intro hij
    rcases h1 with ⟨k0, _, k1⟩ | ⟨k0, _, k1⟩ <;> rcases h2 with ⟨m0, _, m1⟩ | ⟨m0, _, m1⟩
    · rw [k1, m1]; exact ⟨id, id, id⟩
    · omega
    · omega
    · rw [k1, m1]
      refine ⟨fun h => by grind, fun h => by rw [h], fun h => by grind⟩
  rw [e1, e2]
  rcases h with ⟨h0, h | ⟨h, h'⟩⟩ | ⟨h0, h, h'⟩ | ⟨h0, h | ⟨h, h'⟩⟩
  · exact .inl ⟨h0, .inl h⟩
  · exact .inl ⟨h0, .inr ⟨h, (key h).1 h'⟩⟩
  · exact .inr (.inl ⟨h0, h, (key h).2.1 h'⟩)
  · exact .inr (.inr ⟨h0, .inl h⟩)
  · exact .inr (.inr ⟨h0, .inr ⟨h, (key h).2.2 h'⟩⟩)
theorem eord_scale_pos {i j c i' j' : Int} {a b r a' b' : Rat} (hr : 0 < r) (h1 : PScale i a r false i' a') (h2 : PScale j b r false j' b') (h : EOrd c i a j b) : EOrd c i' a' j' b' := by
  obtain ⟨e1, k1⟩ := h1
  obtain ⟨e2, k2⟩ := h2
  have e1' : i' = i := e1
  have e2' : j' = j := e2
  have key : ∀ x y : Rat, x < y → x * r < y * r := fun x y h => Rat.mul_lt_mul_of_pos_right h hr
  rw [e1', e2', k1, k2]
  rcases h with ⟨h0, h | ⟨h, h'⟩⟩ | ⟨h0, h, h'⟩ | ⟨h0, h | ⟨h, h'⟩⟩
  · exact .inl ⟨h0, .inl h⟩
  · exact .inl ⟨h0, .inr ⟨h, key _ _ h'⟩⟩
  · exact .inr (.inl ⟨h0, h, by rw [h']⟩)
  · exact .inr (.inr ⟨h0, .inl h⟩)
  · exact .inr (.inr ⟨h0, .inr ⟨h, key _ _ h'⟩⟩)
theorem eord_scale_neg {i j c i' j' : Int} {a b r a' b' : Rat} (hr : r < 0) (h1 : PScale i a r true i' a') (h2 : PScale j b r true j' b') (h : EOrd c i a j b) : EOrd (-c) i' a' j' b' := by
  obtain ⟨e1, k1⟩ := h1
  obtain ⟨e2, k2⟩ := h2
  have e1' : i' = -i := e1
  have e2' : j' = -j := e2
  have hr' : 0 < -r := by grind
  have key : ∀ x y : Rat, x < y → y * r < x * r := fun x y h => by
    have := Rat.mul_lt_mul_of_pos_right h hr'
    grind
  rw [e1', e2', k1, k2]
  rcases h with ⟨h0, h | ⟨h, h'⟩⟩ | ⟨h0, h, h'⟩ | ⟨h0, h | ⟨h, h'⟩⟩
  · exact .inr (.inr ⟨by omega, .inl (by omega)⟩)
  · exact .inr (.inr ⟨by omega, .inr ⟨by omega, key _ _ h'⟩⟩)
  · exact .inr (.inl ⟨by omega, by omega, by rw [h']⟩)
  · exact .inl ⟨by omega, .inl (by omega)⟩
  · exact .inl ⟨by omega, .inr ⟨by omega, key _ _ h'⟩⟩
end Go.Proofs.YtbindadjepfkcaaGreatDoor
namespace Go.Proofs.YtbindadjepfkcaaGreatDoor
open Go.RowKit

theorem Wn.lt_pw {w s x n c f v} (h : Wn w s x n c f v) : ((v.natAbs : Nat) : Int) < pw n := by
  have hm := h.mag
  have h1 := vf_lt hm.lm
  have h3 : vf f n = ((v.natAbs : Nat) : Int) := hm.val
  omega
theorem Wn.len_pw {w s x n c f v} {K : Nat} (h : Wn w s x n c f v) (hv : ((v.natAbs : Nat) : Int) < pw K) : n ≤ K := by
  have hm := h.mag
  have h3 : vf f n = ((v.natAbs : Nat) : Int) := hm.val
  by_cases hn : n ≤ K
  · exact hn
  · have h1 := vf_form_ge hm.lm (fm_of_wfB hm.wf) (by omega)
    have h2 := pw_mono (show K ≤ n - 1 by omega)
    omega
theorem norm_le (N : Int) (D : Nat) (h : D ≠ 0) : (Rat.normalize N D h).num.natAbs ≤ N.natAbs ∧ (Rat.normalize N D h).den ≤ D := by
  rw [Rat.normalize_eq]
  exact ⟨Int.natAbs_ediv_le_natAbs _ _, Nat.div_le_self _ _⟩
/-- Numerator and denominator lie below so many limbs. -/
def Lo (K : Nat) (q : Rat) : Prop := ((q.num.natAbs : Nat) : Int) < pw K ∧ ((q.den : Nat) : Int) < pw K
theorem Lo.mono {K L q} (h : Lo K q) (hk : K ≤ L) : Lo L q := ⟨Int.lt_of_lt_of_le h.1 (pw_mono hk), Int.lt_of_lt_of_le h.2 (pw_mono hk)⟩
theorem Rn.lo {L w s x n c f y m d g q} {K : Nat} (h : Rn L w s x n c f y m d g q) (hn : n ≤ K) (hm : m ≤ K) : Lo K q :=
  ⟨Int.lt_of_lt_of_le h.num.lt_pw (pw_mono hn), Int.lt_of_lt_of_le (by have := h.den.lt_pw; simpa using this) (pw_mono hm)⟩
theorem Rn.cut {L w s x n c f y m d g q} {K : Nat} (h : Rn L w s x n c f y m d g q) (hq : Lo K q) : Rn K w s x n c f y m d g q :=
  ⟨h.num, h.den, h.num.len_pw hq.1, h.den.len_pw (by simpa using hq.2)⟩
theorem En.cut {L w i s x n c f y m d g q} {K : Nat} (h : En L w i s x n c f y m d g q) (hq : Lo K q) : En K w i s x n c f y m d g q := ⟨h.rn.cut hq, h.inf⟩
theorem mul_pw {a b : Nat} {K L : Nat} (h1 : (a : Int) < pw K) (h2 : (b : Int) < pw L) : ((a * b : Nat) : Int) ≤ pw (K + L) := by
  rw [pw_add, Int.natCast_mul]
  exact Int.mul_le_mul (by omega) (by omega) (by omega) (by have := pw_pos K; omega)
theorem pw_twice (K : Nat) : 2 * pw K < pw (K + 1) := by
  have := pw_pos K
  simp only [pw]; omega
theorem lo_mul {K L : Nat} {a b : Rat} (ha : Lo K a) (hb : Lo L b) : Lo (K + L + 1) (a * b) := by
  rw [Rat.mul_def]
  obtain ⟨h1, h2⟩ := norm_le (a.num * b.num) (a.den * b.den) (Nat.mul_ne_zero a.den_nz b.den_nz)
  have e1 := mul_pw ha.1 hb.1
  have e2 := mul_pw ha.2 hb.2
  rw [Int.natAbs_mul] at h1
  have p := pw_twice (K + L)
  have p0 := pw_pos (K + L)
  constructor <;> omega
theorem lo_add {K L : Nat} {a b : Rat} (ha : Lo K a) (hb : Lo L b) : Lo (K + L + 1) (a + b) := by
  rw [Rat.add_def]
  obtain ⟨h1, h2⟩ := norm_le (a.num * b.den + b.num * a.den) (a.den * b.den) (Nat.mul_ne_zero a.den_nz b.den_nz)
  have e1 := mul_pw ha.1 hb.2
  have e2 := mul_pw ha.2 hb.1
  have e3 := mul_pw ha.2 hb.2
  have h3 := Int.natAbs_add_le (a.num * b.den) (b.num * a.den)
  rw [Int.natAbs_mul, Int.natAbs_mul, Int.natAbs_natCast, Int.natAbs_natCast, Nat.mul_comm b.num.natAbs] at h3
  have p := pw_twice (K + L)
  have p0 := pw_pos (K + L)
  constructor <;> omega
theorem lo_neg {K : Nat} {a : Rat} (ha : Lo K a) : Lo K (-a) := by
  unfold Lo at *
  rw [Rat.neg_num, Rat.neg_den, Int.natAbs_neg]
  exact ha
theorem lo_scale {i : Int} {a r : Rat} {s : Bool} {j : Int} {q : Rat} {K L : Nat} (h : PScale i a r s j q) (ha : Lo K a) (hr : Lo L r) : Lo (K + L + 1) q := by
  rw [h.2]; exact lo_mul ha hr
theorem lo_shift {i : Int} {a r : Rat} {j : Int} {q : Rat} {K L : Nat} (h : PShift i a r j q) (ha : Lo K a) (hr : Lo L r) : Lo (K + L + 1) q := by
  rcases h with ⟨_, _, h⟩ | ⟨_, _, h⟩
  · rw [h]; exact ha.mono (by omega)
  · rw [h]; exact lo_add ha hr
theorem lo_ng {i : Int} {a : Rat} {j : Int} {q : Rat} {K : Nat} (h : PNeg i a j q) (ha : Lo K a) : Lo K q := by
  rw [h.2]; exact lo_neg ha
/-- An answered bound, when it is no error. -/
theorem OX.get {P w i s x n c f y m d g er} (h : OX 0 P w i s x n c f y m d g er) : er = 0 ∧ ∃ q, P i q ∧ En 2000 w i s x n c f y m d g q := by
  rcases h with ⟨h0, ⟨h1, _⟩ | ⟨_, h⟩⟩
  · exact absurd rfl h1
  · exact ⟨h0, h⟩
theorem OC.get {i a j b r er} (h : OC true i a j b r er) : er = 0 ∧ EOrd r i a j b := by
  rcases h with ⟨h, _⟩ | ⟨_, h⟩
  · cases h
  · exact h
theorem EOrd.one {c c' i j : Int} {a b : Rat} (h : EOrd c i a j b) (k : EOrd c' i a j b) : c' = c := by
  rcases h with ⟨h0, h | ⟨h, h'⟩⟩ | ⟨h0, h, h'⟩ | ⟨h0, h | ⟨h, h'⟩⟩ <;> rcases k with ⟨k0, k | ⟨k, k'⟩⟩ | ⟨k0, k, k'⟩ | ⟨k0, k | ⟨k, k'⟩⟩ <;> first | omega | (exfalso; grind)
end Go.Proofs.YtbindadjepfkcaaGreatDoor

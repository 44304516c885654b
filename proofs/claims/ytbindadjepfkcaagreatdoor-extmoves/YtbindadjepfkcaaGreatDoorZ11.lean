/-
  Walks of the document's DocCmp, DocMax, DocMin of bounds, whatever they are handed; of the statements' same, light, num. Walks of ext: number, Scale of minus infinity by a number below 0, Text of infinity; of the statements' own look at answers that the document fixes (awake). The walk of ExtOrders.
-/
import Derived.Test.YtbindadjepfkcaaGreatDoorZ10
namespace Go.Proofs.YtbindadjepfkcaaGreatDoor
open Go.RowKit

set_option maxRecDepth 100000 in
set_option maxHeartbeats 4000000 in
theorem docCmpX_g {w : World} {i1 : Int} {s1 : Bool} {x1 : Option Addr} {n1 c1 : Nat} {f1 : Nat → Int} {y1 : Option Addr} {m1 d1 : Nat} {g1 : Nat → Int} {i2 : Int} {s2 : Bool} {x2 : Option Addr} {n2 c2 : Nat} {f2 : Nat → Int} {y2 : Option Addr} {m2 d2 : Nat} {g2 : Nat → Int} {qa qb : Rat} {p1 p2 : Bool} (h1 : Rw w x1 n1 c1 f1 y1 m1 d1 g1) (h2 : Rw w x2 n2 c2 f2 y2 m2 d2 g2) (hn1 : n1 ≤ 100) (hm1 : m1 ≤ 100) (hn2 : n2 ≤ 100) (hm2 : m2 ≤ 100) (hp1 : efB i1 s1 f1 n1 g1 m1 = p1) (hp2 : efB i2 s2 f2 n2 g2 m2 = p2) (hq1 : p1 = true → En 100 w i1 s1 x1 n1 c1 f1 y1 m1 d1 g1 qa) (hq2 : p2 = true → En 100 w i2 s2 x2 n2 c2 f2 y2 m2 d2 g2 qb) :
    Calls Tryz.prog 12 #[.agg #[.int .i64 i1, .bool s1, .slice x1 n1 c1, .slice y1 m1 d1], .agg #[.int .i64 i2, .bool s2, .slice x2 n2 c2, .slice y2 m2 d2]] w fun e w' => ∃ r er, e = .returned (.tuple #[.int .i64 r, .int .i64 er]) ∧ Below w.heap.size w w' ∧ Hid (OC (p1 && p2) i1 qa i2 qb r er) := by
  have HP1 := hid hp1; have HP2 := hid hp2
  have k1 := (bx4_at w (.int .i64 i1) (.bool s1) (.slice x1 n1 c1) (.slice y1 m1 d1) 26).alloc (.cells #[.int .i64 i2, .bool s2, .slice x2 n2 c2, .slice y2 m2 d2] 26)
  have k2 := bx4_at (w.alloc (.cells #[.int .i64 i1, .bool s1, .slice x1 n1 c1, .slice y1 m1 d1] 26)) (.int .i64 i2) (.bool s2) (.slice x2 n2 c2) (.slice y2 m2 d2) 26
  rw [size_alloc1] at k2
  have k3 := below_alloc (below_alloc (Below.refl w.heap.size w) (.cells #[.int .i64 i1, .bool s1, .slice x1 n1 c1, .slice y1 m1 d1] 26)) (.cells #[.int .i64 i2, .bool s2, .slice x2 n2 c2, .slice y2 m2 d2] 26)
  have HQ1 := hid (fun h => (hq1 h).below k3); have HQ2 := hid (fun h => (hq2 h).below k3); have HR1 := hid (h1.below k3); have HR2 := hid (h2.below k3)
  clear hp1 hp2 hq1 hq2 h1 h2
  go_enter Tryz.func12, Tryz.ntmps12
  go_upto_region 1 with fail
  generalize (w.alloc (.cells #[.int .i64 i1, .bool s1, .slice x1 n1 c1, .slice y1 m1 d1] 26)).alloc (.cells #[.int .i64 i2, .bool s2, .slice x2 n2 c2, .slice y2 m2 d2] 26) = w1 at *
  have HW := hid k3; have BA := hid k1; have BB := hid k2
  clear k1 k2 k3
  have c1 := xForm_c (i := i1) (s := s1) HR1.out (by omega) (by omega)
  rw [HP1.out] at c1
  have C1 := hid c1
  have c2 := fun W hW => xForm_c (i := i2) (s := s2) (HR2.out.below (w' := W) hW) (by omega) (by omega)
  rw [HP2.out] at c2
  have C2 := hid c2
  clear c1 c2
  obtain ⟨za, a0, a1, a2, a3⟩ := BA.out
  go_wp2_with fail
  refine C1.out.mono ?_
  rintro e w2 ⟨rfl, hb⟩
  have HB1 := hid hb
  clear hb za a0 a1 a2 a3
  cases p1
  · have HB := hid (HW.out.trans (HB1.out.mono HW.out.size))
    go_wp2
    go_ret2
    exact ⟨0, 3, rfl, HB.out, .inl ⟨rfl, rfl, rfl⟩⟩
  obtain ⟨zb, b0, b1, b2, b3⟩ := BB.out.below HB1.out
  go_wp2_with fail
  refine (C2.out _ HB1.out).mono ?_
  rintro e w3 ⟨rfl, hb⟩
  have HB3 := hid (HB1.out.trans (hb.mono HB1.out.size))
  clear hb zb b0 b1 b2 b3
  cases p2
  · have HB := hid (HW.out.trans (HB3.out.mono HW.out.size))
    go_wp2
    go_ret2
    exact ⟨0, 3, rfl, HB.out, .inl ⟨rfl, rfl, rfl⟩⟩
  have E1 := hid ((HQ1.out (by simp)).below HB3.out); have E2 := hid ((HQ2.out (by simp)).below HB3.out)
  have HB := hid (HW.out.trans (HB3.out.mono HW.out.size))
  obtain ⟨za, a0, a1, a2, a3⟩ := BA.out.below HB3.out
  obtain ⟨zb, b0, b1, b2, b3⟩ := BB.out.below HB3.out
  have CF1 : Hid (∀ W, Below w3.heap.size w3 W → Calls Tryz.prog 49 #[.agg #[.int .i64 i1, .bool s1, .slice x1 n1 c1, .slice y1 m1 d1]] W fun e w' => ∃ s x n c d y m c' g, e = .returned (.agg #[.int .i64 i1, .bool s, .slice x n c, .slice y m c']) ∧ Below W.heap.size W w' ∧ Hid (n ≤ 200 ∧ m ≤ 200 ∧ Fn w' i1 s x n d y m g qa)) := fun W hW => xFrom_c (E1.out.below hW) (by omega)
  have CF2 : Hid (∀ W, Below w3.heap.size w3 W → Calls Tryz.prog 49 #[.agg #[.int .i64 i2, .bool s2, .slice x2 n2 c2, .slice y2 m2 d2]] W fun e w' => ∃ s x n c d y m c' g, e = .returned (.agg #[.int .i64 i2, .bool s, .slice x n c, .slice y m c']) ∧ Below W.heap.size W w' ∧ Hid (n ≤ 200 ∧ m ≤ 200 ∧ Fn w' i2 s x n d y m g qb)) := fun W hW => xFrom_c (E2.out.below hW) (by omega)
  have CC : Hid (∀ (W : World) (s5 : Bool) (x5 : Option Addr) (n5 c5 : Nat) (d5 : Nat → Int) (y5 : Option Addr) (m5 e5 : Nat) (g5 : Nat → Int) (s6 : Bool) (x6 : Option Addr) (n6 c6 : Nat) (d6 : Nat → Int) (y6 : Option Addr) (m6 e6 : Nat) (g6 : Nat → Int), n5 ≤ 200 → m5 ≤ 200 → n6 ≤ 200 → m6 ≤ 200 → Fn W i1 s5 x5 n5 d5 y5 m5 g5 qa → Fn W i2 s6 x6 n6 d6 y6 m6 g6 qb → Calls Tryz.prog 48 #[.agg #[.int .i64 i1, .bool s5, .slice x5 n5 c5, .slice y5 m5 e5], .agg #[.int .i64 i2, .bool s6, .slice x6 n6 c6, .slice y6 m6 e6]] W fun e w' => ∃ r, e = .returned (.int .i64 r) ∧ Below W.heap.size W w' ∧ Hid (EOrd r i1 qa i2 qb)) := fun W s5 x5 n5 c5 d5 y5 m5 e5 g5 s6 x6 n6 c6 d6 y6 m6 e6 g6 l1 l2 l3 l4 k1 k2 => xCmp_c k1 k2 (by omega) (by omega) (by omega) (by omega)
  go_wp2_with fail
  go_region_held3 (fun w' => w'.cell? ⟨w.heap.size, 0, none⟩ = some (.int .i64 i1) ∧ w'.cell? ⟨w.heap.size, 1, none⟩ = some (.bool s1) ∧ w'.cell? ⟨w.heap.size, 2, none⟩ = some (.slice x1 n1 c1) ∧ w'.cell? ⟨w.heap.size, 3, none⟩ = some (.slice y1 m1 d1) ∧ w'.cell? ⟨w.heap.size + 1, 0, none⟩ = some (.int .i64 i2) ∧ w'.cell? ⟨w.heap.size + 1, 1, none⟩ = some (.bool s2) ∧ w'.cell? ⟨w.heap.size + 1, 2, none⟩ = some (.slice x2 n2 c2) ∧ w'.cell? ⟨w.heap.size + 1, 3, none⟩ = some (.slice y2 m2 d2))
    (refine ⟨?_, ?_, ?_, ?_, ?_, ?_, ?_, ?_⟩ <;> repeat (with_reducible first | assumption | refine kCd ?_ | refine kCb (by assumption) ?_))
    (first
      | (go_at_call 49; with_reducible refine (CF1.out _ (by repeat (with_reducible first | assumption | exact Below.refl _ _ | refine Below.drew ?_ | refine kBb (by assumption) ?_))).mono ?_; rintro e v5 ⟨s5, x5, n5, c5, d5, y5, m5, e5, g5, rfl, hb5, H5⟩)
      | (go_at_call 49; with_reducible refine (CF2.out _ (by repeat (with_reducible first | assumption | exact Below.refl _ _ | refine Below.drew ?_ | refine kBb (by assumption) ?_))).mono ?_; rintro e v6 ⟨s6, x6, n6, c6, d6, y6, m6, e6, g6, rfl, hb6, H6⟩)
      | (go_at_call 48; with_reducible refine (CC.out _ s5 x5 n5 c5 d5 y5 m5 e5 g5 s6 x6 n6 c6 d6 y6 m6 e6 g6 H5.out.1 H5.out.2.1 H6.out.1 H6.out.2.1 (by repeat (with_reducible first | exact H5.out.2.2 | refine kFnd ?_ | refine kFnb (by assumption) ?_)) (by repeat (with_reducible first | exact H6.out.2.2 | refine kFnd ?_ | refine kFnb (by assumption) ?_))).mono ?_; rintro e v7 ⟨r7, rfl, hb7, H7⟩))
  all_goals
    have hb : Below w3.heap.size w3 v7 := (by repeat (with_reducible first | assumption | exact Below.refl _ _ | refine Below.drew ?_ | refine kBb (by assumption) ?_))
    have HBz := hid (HB.out.trans (hb.mono HB.out.size))
    clear hb
    go_wp2
    go_ret2
    exact ⟨r7, 0, rfl, HBz.out, .inr ⟨rfl, rfl, H7.out⟩⟩

set_option maxRecDepth 100000 in
set_option maxHeartbeats 4000000 in
theorem docMaxX_g {w : World} {i1 : Int} {s1 : Bool} {x1 : Option Addr} {n1 c1 : Nat} {f1 : Nat → Int} {y1 : Option Addr} {m1 d1 : Nat} {g1 : Nat → Int} {i2 : Int} {s2 : Bool} {x2 : Option Addr} {n2 c2 : Nat} {f2 : Nat → Int} {y2 : Option Addr} {m2 d2 : Nat} {g2 : Nat → Int} {qa qb : Rat} {p1 p2 : Bool} (h1 : Rw w x1 n1 c1 f1 y1 m1 d1 g1) (h2 : Rw w x2 n2 c2 f2 y2 m2 d2 g2) (hn1 : n1 ≤ 100) (hm1 : m1 ≤ 100) (hn2 : n2 ≤ 100) (hm2 : m2 ≤ 100) (hp1 : efB i1 s1 f1 n1 g1 m1 = p1) (hp2 : efB i2 s2 f2 n2 g2 m2 = p2) (hq1 : p1 = true → En 100 w i1 s1 x1 n1 c1 f1 y1 m1 d1 g1 qa) (hq2 : p2 = true → En 100 w i2 s2 x2 n2 c2 f2 y2 m2 d2 g2 qb) :
    Calls Tryz.prog 16 #[.agg #[.int .i64 i1, .bool s1, .slice x1 n1 c1, .slice y1 m1 d1], .agg #[.int .i64 i2, .bool s2, .slice x2 n2 c2, .slice y2 m2 d2]] w fun e w' => ∃ i s x n c f y m d g er, e = .returned (.tuple #[.agg #[.int .i64 i, .bool s, .slice x n c, .slice y m d], .int .i64 er]) ∧ Below w.heap.size w w' ∧ Hid (OE (p1 && p2) (EMax i1 qa i2 qb) w' i s x n c f y m d g er) := by
  have k1 := ((bx4_at w (.int .i64 i1) (.bool s1) (.slice x1 n1 c1) (.slice y1 m1 d1) 26).alloc (.cells #[.int .i64 i2, .bool s2, .slice x2 n2 c2, .slice y2 m2 d2] 26)).alloc (.cells #[.int .i64 0, .bool false, .slice none 0 0, .slice none 0 0] 26)
  have k2 := (bx4_at (w.alloc (.cells #[.int .i64 i1, .bool s1, .slice x1 n1 c1, .slice y1 m1 d1] 26)) (.int .i64 i2) (.bool s2) (.slice x2 n2 c2) (.slice y2 m2 d2) 26).alloc (.cells #[.int .i64 0, .bool false, .slice none 0 0, .slice none 0 0] 26)
  rw [size_alloc1] at k2
  have k5 := ob4_new ((w.alloc (.cells #[.int .i64 i1, .bool s1, .slice x1 n1 c1, .slice y1 m1 d1] 26)).alloc (.cells #[.int .i64 i2, .bool s2, .slice x2 n2 c2, .slice y2 m2 d2] 26)) 26
  rw [size_alloc1, size_alloc1] at k5
  have k3 := below_alloc (below_alloc (below_alloc (Below.refl w.heap.size w) (.cells #[.int .i64 i1, .bool s1, .slice x1 n1 c1, .slice y1 m1 d1] 26)) (.cells #[.int .i64 i2, .bool s2, .slice x2 n2 c2, .slice y2 m2 d2] 26)) (.cells #[.int .i64 0, .bool false, .slice none 0 0, .slice none 0 0] 26)
  have HP1 := hid hp1; have HP2 := hid hp2; have HQ1 := hid (fun h => (hq1 h).below k3); have HQ2 := hid (fun h => (hq2 h).below k3); have HR1 := hid (h1.below k3); have HR2 := hid (h2.below k3)
  clear hp1 hp2 hq1 hq2 h1 h2
  go_enter Tryz.func16, Tryz.ntmps16
  go_upto_region 1 with fail
  generalize ((w.alloc (.cells #[.int .i64 i1, .bool s1, .slice x1 n1 c1, .slice y1 m1 d1] 26)).alloc (.cells #[.int .i64 i2, .bool s2, .slice x2 n2 c2, .slice y2 m2 d2] 26)).alloc (.cells #[.int .i64 0, .bool false, .slice none 0 0, .slice none 0 0] 26) = w1 at *
  have HW := hid k3; have OB := hid k5; have BA := hid k1; have BB := hid k2
  clear k1 k2 k3 k5
  have c1 := xForm_c (i := i1) (s := s1) HR1.out (by omega) (by omega)
  rw [HP1.out] at c1
  have C1 := hid c1
  have c2 := fun W hW => xForm_c (i := i2) (s := s2) (HR2.out.below (w' := W) hW) (by omega) (by omega)
  rw [HP2.out] at c2
  have C2 := hid c2
  clear c1 c2
  obtain ⟨za, a0, a1, a2, a3⟩ := BA.out
  go_wp2_with fail
  refine C1.out.mono ?_
  rintro e w2 ⟨rfl, hb⟩
  have HB1 := hid hb
  clear hb za a0 a1 a2 a3
  cases p1
  · have HB := hid (HW.out.trans (HB1.out.mono HW.out.size))
    obtain ⟨hz, z0, z1, z2, z3, zf⟩ := OB.out.below HB1.out
    go_wp2
    exact bodyPost_ret (v := .tuple #[.agg #[.int .i64 0, .bool false, .slice none 0 0, .slice none 0 0], .int .i64 3]) (by simp [results, Tryz.results16, go_sem, z0, z1, z2, z3]) rfl ⟨0, false, none, 0, 0, fun _ => 0, none, 0, 0, fun _ => 0, 3, rfl, below_st4 HB.out (by omega), .inl ⟨rfl, rfl, rfl, rfl, rfl, rfl⟩⟩
  obtain ⟨zb, b0, b1, b2, b3⟩ := BB.out.below HB1.out
  go_wp2_with fail
  refine (C2.out _ HB1.out).mono ?_
  rintro e w3 ⟨rfl, hb⟩
  have HB3 := hid (HB1.out.trans (hb.mono HB1.out.size))
  clear hb zb b0 b1 b2 b3
  cases p2
  · have HB := hid (HW.out.trans (HB3.out.mono HW.out.size))
    obtain ⟨hz, z0, z1, z2, z3, zf⟩ := OB.out.below HB3.out
    go_wp2
    exact bodyPost_ret (v := .tuple #[.agg #[.int .i64 0, .bool false, .slice none 0 0, .slice none 0 0], .int .i64 3]) (by simp [results, Tryz.results16, go_sem, z0, z1, z2, z3]) rfl ⟨0, false, none, 0, 0, fun _ => 0, none, 0, 0, fun _ => 0, 3, rfl, below_st4 HB.out (by omega), .inl ⟨rfl, rfl, rfl, rfl, rfl, rfl⟩⟩
  have E1 := hid ((HQ1.out (by simp)).below HB3.out); have E2 := hid ((HQ2.out (by simp)).below HB3.out)
  have HB := hid (HW.out.trans (HB3.out.mono HW.out.size))
  obtain ⟨za, a0, a1, a2, a3⟩ := BA.out.below HB3.out
  obtain ⟨zb, b0, b1, b2, b3⟩ := BB.out.below HB3.out
  have OB3 := hid (OB.out.below HB3.out)
  obtain ⟨hz, z0, z1, z2, z3, zf⟩ := OB3.out
  have CF1 : Hid (∀ W, Below w3.heap.size w3 W → Calls Tryz.prog 49 #[.agg #[.int .i64 i1, .bool s1, .slice x1 n1 c1, .slice y1 m1 d1]] W fun e w' => ∃ s x n c d y m c' g, e = .returned (.agg #[.int .i64 i1, .bool s, .slice x n c, .slice y m c']) ∧ Below W.heap.size W w' ∧ Hid (n ≤ 200 ∧ m ≤ 200 ∧ Fn w' i1 s x n d y m g qa)) := fun W hW => xFrom_c (E1.out.below hW) (by omega)
  have CF2 : Hid (∀ W, Below w3.heap.size w3 W → Calls Tryz.prog 49 #[.agg #[.int .i64 i2, .bool s2, .slice x2 n2 c2, .slice y2 m2 d2]] W fun e w' => ∃ s x n c d y m c' g, e = .returned (.agg #[.int .i64 i2, .bool s, .slice x n c, .slice y m c']) ∧ Below W.heap.size W w' ∧ Hid (n ≤ 200 ∧ m ≤ 200 ∧ Fn w' i2 s x n d y m g qb)) := fun W hW => xFrom_c (E2.out.below hW) (by omega)
  have CC : Hid (∀ (W : World) (s5 : Bool) (x5 : Option Addr) (n5 c5 : Nat) (d5 : Nat → Int) (y5 : Option Addr) (m5 e5 : Nat) (g5 : Nat → Int) (s6 : Bool) (x6 : Option Addr) (n6 c6 : Nat) (d6 : Nat → Int) (y6 : Option Addr) (m6 e6 : Nat) (g6 : Nat → Int), n5 ≤ 200 → m5 ≤ 200 → n6 ≤ 200 → m6 ≤ 200 → Fn W i1 s5 x5 n5 d5 y5 m5 g5 qa → Fn W i2 s6 x6 n6 d6 y6 m6 g6 qb → Calls Tryz.prog 55 #[.agg #[.int .i64 i1, .bool s5, .slice x5 n5 c5, .slice y5 m5 e5], .agg #[.int .i64 i2, .bool s6, .slice x6 n6 c6, .slice y6 m6 e6]] W fun e w' => ∃ i s x n c d y m c' g q, e = .returned (.agg #[.int .i64 i, .bool s, .slice x n c, .slice y m c']) ∧ Below W.heap.size W w' ∧ Hid (n ≤ 200 ∧ m ≤ 200 ∧ Fn w' i s x n d y m g q ∧ EMax i1 qa i2 qb i q)) := fun W s5 x5 n5 c5 d5 y5 m5 e5 g5 s6 x6 n6 c6 d6 y6 m6 e6 g6 l1 l2 l3 l4 k1 k2 => xMax_c k1 k2 (by omega) l1 l2 l3 l4
  have CT : Hid (∀ (W : World) (i : Int) (s : Bool) (x : Option Addr) (n c : Nat) (d : Nat → Int) (y : Option Addr) (m e : Nat) (g : Nat → Int) (q : Rat), n ≤ 200 → m ≤ 200 → Fn W i s x n d y m g q → Calls Tryz.prog 42 #[.agg #[.int .i64 i, .bool s, .slice x n c, .slice y m e]] W fun en w' => ∃ z k c' f z2 k2 c2 f2, en = .returned (.agg #[.int .i64 i, .bool s, .slice z k c', .slice z2 k2 c2]) ∧ Below W.heap.size W w' ∧ Hid (En 2000 w' i s z k c' f z2 k2 c2 f2 q)) := fun W i s x n c d y m e g q l1 l2 k1 => (xTo_c k1 (by omega) (by omega)).mono (fun _ _ ⟨z, k, c', f, z2, k2, c2, f2, j1, j2, j3⟩ => ⟨z, k, c', f, z2, k2, c2, f2, j1, j2, j3.out.mono (by omega)⟩)
  go_wp2_with fail
  go_region_held3 (fun w' => w'.cell? ⟨w.heap.size, 0, none⟩ = some (.int .i64 i1) ∧ w'.cell? ⟨w.heap.size, 1, none⟩ = some (.bool s1) ∧ w'.cell? ⟨w.heap.size, 2, none⟩ = some (.slice x1 n1 c1) ∧ w'.cell? ⟨w.heap.size, 3, none⟩ = some (.slice y1 m1 d1) ∧ w'.cell? ⟨w.heap.size + 1, 0, none⟩ = some (.int .i64 i2) ∧ w'.cell? ⟨w.heap.size + 1, 1, none⟩ = some (.bool s2) ∧ w'.cell? ⟨w.heap.size + 1, 2, none⟩ = some (.slice x2 n2 c2) ∧ w'.cell? ⟨w.heap.size + 1, 3, none⟩ = some (.slice y2 m2 d2) ∧ (w'.cell? ⟨w.heap.size + 1 + 1, 0, none⟩).isSome = true ∧ (w'.cell? ⟨w.heap.size + 1 + 1, 1, none⟩).isSome = true ∧ (w'.cell? ⟨w.heap.size + 1 + 1, 2, none⟩).isSome = true ∧ (w'.cell? ⟨w.heap.size + 1 + 1, 3, none⟩).isSome = true ∧ w'.frozen? ⟨w.heap.size + 1 + 1, 0, none⟩ = false ∧ w'.frozen? ⟨w.heap.size + 1 + 1, 1, none⟩ = false ∧ w'.frozen? ⟨w.heap.size + 1 + 1, 2, none⟩ = false ∧ w'.frozen? ⟨w.heap.size + 1 + 1, 3, none⟩ = false)
    (refine ⟨?_, ?_, ?_, ?_, ?_, ?_, ?_, ?_, ?_, ?_, ?_, ?_, ?_, ?_, ?_, ?_⟩ <;> repeat (with_reducible first | assumption | exact zf _ | exact tf _ | exact uf _ | exact vf' _ | exact rf' _ | exact kI0 z0 | exact kI0 z1 | exact kI0 z2 | exact kI0 z3 | exact kI0 t0 | exact kI0 t1 | exact kI0 t2 | exact kI0 t3 | exact kI0 u0 | exact kI0 u1 | exact kI0 u2 | exact kI0 u3 | exact kI0 v0 | exact kI0 v1 | exact kI0 v2 | exact kI0 v3 | exact kI0 r0 | exact kI0 r1 | exact kI0 r2 | exact kI0 r3 | refine kCd ?_ | refine kId ?_ | refine kFd ?_ | refine kCs (by simp only [ne_eq]; omega) ?_ | refine kIs ?_ | refine kFs ?_ | refine kCb (by assumption) ?_ | refine kIb (by assumption) ?_))
    (first
      | (go_at_call 49; with_reducible refine (CF1.out _ (by repeat (with_reducible first | assumption | exact Below.refl _ _ | refine Below.drew ?_ | refine kBb (by assumption) ?_))).mono ?_; rintro e v5 ⟨s5, x5, n5, c5, d5, y5, m5, e5, g5, rfl, hb5, H5⟩; have Tt : Ob4 v5 (w.heap.size + 1 + 1) := (by repeat (with_reducible first | exact OB3.out | exact Tt | exact Tu | exact Tv | exact Tr | refine Ob4.drew ?_ | refine kO4b (by assumption) ?_)); obtain ⟨_, t0, t1, t2, t3, tf⟩ := id Tt)
      | (go_at_call 49; with_reducible refine (CF2.out _ (by repeat (with_reducible first | assumption | exact Below.refl _ _ | refine Below.drew ?_ | refine kBb (by assumption) ?_))).mono ?_; rintro e v6 ⟨s6, x6, n6, c6, d6, y6, m6, e6, g6, rfl, hb6, H6⟩; have Tu : Ob4 v6 (w.heap.size + 1 + 1) := (by repeat (with_reducible first | exact OB3.out | exact Tt | exact Tu | exact Tv | exact Tr | refine Ob4.drew ?_ | refine kO4b (by assumption) ?_)); obtain ⟨_, u0, u1, u2, u3, uf⟩ := id Tu)
      | (go_at_call 55; with_reducible refine (CC.out _ s5 x5 n5 c5 d5 y5 m5 e5 g5 s6 x6 n6 c6 d6 y6 m6 e6 g6 H5.out.1 H5.out.2.1 H6.out.1 H6.out.2.1 (by repeat (with_reducible first | exact H5.out.2.2 | refine kFnd ?_ | refine kFnb (by assumption) ?_)) (by repeat (with_reducible first | exact H6.out.2.2 | refine kFnd ?_ | refine kFnb (by assumption) ?_))).mono ?_; rintro e v7 ⟨i7, s7, x7, n7, c7, d7, y7, m7, e7, g7, q7, rfl, hb7, H7⟩; have Tv : Ob4 v7 (w.heap.size + 1 + 1) := (by repeat (with_reducible first | exact OB3.out | exact Tt | exact Tu | exact Tv | exact Tr | refine Ob4.drew ?_ | refine kO4b (by assumption) ?_)); obtain ⟨_, v0, v1, v2, v3, vf'⟩ := id Tv)
      | (go_at_call 42; with_reducible refine (CT.out _ i7 s7 x7 n7 c7 d7 y7 m7 e7 g7 q7 H7.out.1 H7.out.2.1 (by repeat (with_reducible first | exact H7.out.2.2.1 | refine kFnd ?_ | refine kFnb (by assumption) ?_))).mono ?_; rintro e v8 ⟨x8, n8, c8, f8, y8, m8, d8, g8, rfl, hb8, H8⟩; have Tr : Ob4 v8 (w.heap.size + 1 + 1) := (by repeat (with_reducible first | exact OB3.out | exact Tt | exact Tu | exact Tv | exact Tr | refine Ob4.drew ?_ | refine kO4b (by assumption) ?_)); obtain ⟨_, r0, r1, r2, r3, rf'⟩ := id Tr))
  all_goals
    have hb : Below w3.heap.size w3 v8 := (by repeat (with_reducible first | assumption | exact Below.refl _ _ | refine Below.drew ?_ | refine kBb (by assumption) ?_))
    go_wp2
    exact bodyPost_ret (v := .tuple #[.agg #[.int .i64 i7, .bool s7, .slice x8 n8 c8, .slice y8 m8 d8], .int .i64 0]) (by simp [results, Tryz.results16, go_sem, r0, r1, r2, r3]) rfl ⟨i7, s7, x8, n8, c8, f8, y8, m8, d8, g8, 0, rfl, below_st4 (HB.out.trans (hb.mono HB.out.size)) (by omega), .inr ⟨rfl, rfl, q7, H7.out.2.2.2, ⟨Tr.rn H8.out.rn, H8.out.inf⟩⟩⟩

set_option maxRecDepth 100000 in
set_option maxHeartbeats 4000000 in
theorem docMinX_g {w : World} {i1 : Int} {s1 : Bool} {x1 : Option Addr} {n1 c1 : Nat} {f1 : Nat → Int} {y1 : Option Addr} {m1 d1 : Nat} {g1 : Nat → Int} {i2 : Int} {s2 : Bool} {x2 : Option Addr} {n2 c2 : Nat} {f2 : Nat → Int} {y2 : Option Addr} {m2 d2 : Nat} {g2 : Nat → Int} {qa qb : Rat} {p1 p2 : Bool} (h1 : Rw w x1 n1 c1 f1 y1 m1 d1 g1) (h2 : Rw w x2 n2 c2 f2 y2 m2 d2 g2) (hn1 : n1 ≤ 100) (hm1 : m1 ≤ 100) (hn2 : n2 ≤ 100) (hm2 : m2 ≤ 100) (hp1 : efB i1 s1 f1 n1 g1 m1 = p1) (hp2 : efB i2 s2 f2 n2 g2 m2 = p2) (hq1 : p1 = true → En 100 w i1 s1 x1 n1 c1 f1 y1 m1 d1 g1 qa) (hq2 : p2 = true → En 100 w i2 s2 x2 n2 c2 f2 y2 m2 d2 g2 qb) :
    Calls Tryz.prog 19 #[.agg #[.int .i64 i1, .bool s1, .slice x1 n1 c1, .slice y1 m1 d1], .agg #[.int .i64 i2, .bool s2, .slice x2 n2 c2, .slice y2 m2 d2]] w fun e w' => ∃ i s x n c f y m d g er, e = .returned (.tuple #[.agg #[.int .i64 i, .bool s, .slice x n c, .slice y m d], .int .i64 er]) ∧ Below w.heap.size w w' ∧ Hid (OE (p1 && p2) (EMin i1 qa i2 qb) w' i s x n c f y m d g er) := by
  have k1 := ((bx4_at w (.int .i64 i1) (.bool s1) (.slice x1 n1 c1) (.slice y1 m1 d1) 26).alloc (.cells #[.int .i64 i2, .bool s2, .slice x2 n2 c2, .slice y2 m2 d2] 26)).alloc (.cells #[.int .i64 0, .bool false, .slice none 0 0, .slice none 0 0] 26)
  have k2 := (bx4_at (w.alloc (.cells #[.int .i64 i1, .bool s1, .slice x1 n1 c1, .slice y1 m1 d1] 26)) (.int .i64 i2) (.bool s2) (.slice x2 n2 c2) (.slice y2 m2 d2) 26).alloc (.cells #[.int .i64 0, .bool false, .slice none 0 0, .slice none 0 0] 26)
  rw [size_alloc1] at k2
  have k5 := ob4_new ((w.alloc (.cells #[.int .i64 i1, .bool s1, .slice x1 n1 c1, .slice y1 m1 d1] 26)).alloc (.cells #[.int .i64 i2, .bool s2, .slice x2 n2 c2, .slice y2 m2 d2] 26)) 26
  rw [size_alloc1, size_alloc1] at k5
  have k3 := below_alloc (below_alloc (below_alloc (Below.refl w.heap.size w) (.cells #[.int .i64 i1, .bool s1, .slice x1 n1 c1, .slice y1 m1 d1] 26)) (.cells #[.int .i64 i2, .bool s2, .slice x2 n2 c2, .slice y2 m2 d2] 26)) (.cells #[.int .i64 0, .bool false, .slice none 0 0, .slice none 0 0] 26)
  have HP1 := hid hp1; have HP2 := hid hp2; have HQ1 := hid (fun h => (hq1 h).below k3); have HQ2 := hid (fun h => (hq2 h).below k3); have HR1 := hid (h1.below k3); have HR2 := hid (h2.below k3)
  clear hp1 hp2 hq1 hq2 h1 h2
  go_enter Tryz.func19, Tryz.ntmps19
  go_upto_region 1 with fail
  generalize ((w.alloc (.cells #[.int .i64 i1, .bool s1, .slice x1 n1 c1, .slice y1 m1 d1] 26)).alloc (.cells #[.int .i64 i2, .bool s2, .slice x2 n2 c2, .slice y2 m2 d2] 26)).alloc (.cells #[.int .i64 0, .bool false, .slice none 0 0, .slice none 0 0] 26) = w1 at *
  have HW := hid k3; have OB := hid k5; have BA := hid k1; have BB := hid k2
  clear k1 k2 k3 k5
  have c1 := xForm_c (i := i1) (s := s1) HR1.out (by omega) (by omega)
  rw [HP1.out] at c1
  have C1 := hid c1
  have c2 := fun W hW => xForm_c (i := i2) (s := s2) (HR2.out.below (w' := W) hW) (by omega) (by omega)
  rw [HP2.out] at c2
  have C2 := hid c2
  clear c1 c2
  obtain ⟨za, a0, a1, a2, a3⟩ := BA.out
  go_wp2_with fail
  refine C1.out.mono ?_
  rintro e w2 ⟨rfl, hb⟩
  have HB1 := hid hb
  clear hb za a0 a1 a2 a3
  cases p1
  · have HB := hid (HW.out.trans (HB1.out.mono HW.out.size))
    obtain ⟨hz, z0, z1, z2, z3, zf⟩ := OB.out.below HB1.out
    go_wp2
    exact bodyPost_ret (v := .tuple #[.agg #[.int .i64 0, .bool false, .slice none 0 0, .slice none 0 0], .int .i64 3]) (by simp [results, Tryz.results19, go_sem, z0, z1, z2, z3]) rfl ⟨0, false, none, 0, 0, fun _ => 0, none, 0, 0, fun _ => 0, 3, rfl, below_st4 HB.out (by omega), .inl ⟨rfl, rfl, rfl, rfl, rfl, rfl⟩⟩
  obtain ⟨zb, b0, b1, b2, b3⟩ := BB.out.below HB1.out
  go_wp2_with fail
  refine (C2.out _ HB1.out).mono ?_
  rintro e w3 ⟨rfl, hb⟩
  have HB3 := hid (HB1.out.trans (hb.mono HB1.out.size))
  clear hb zb b0 b1 b2 b3
  cases p2
  · have HB := hid (HW.out.trans (HB3.out.mono HW.out.size))
    obtain ⟨hz, z0, z1, z2, z3, zf⟩ := OB.out.below HB3.out
    go_wp2
    exact bodyPost_ret (v := .tuple #[.agg #[.int .i64 0, .bool false, .slice none 0 0, .slice none 0 0], .int .i64 3]) (by simp [results, Tryz.results19, go_sem, z0, z1, z2, z3]) rfl ⟨0, false, none, 0, 0, fun _ => 0, none, 0, 0, fun _ => 0, 3, rfl, below_st4 HB.out (by omega), .inl ⟨rfl, rfl, rfl, rfl, rfl, rfl⟩⟩
  have E1 := hid ((HQ1.out (by simp)).below HB3.out); have E2 := hid ((HQ2.out (by simp)).below HB3.out)
  have HB := hid (HW.out.trans (HB3.out.mono HW.out.size))
  obtain ⟨za, a0, a1, a2, a3⟩ := BA.out.below HB3.out
  obtain ⟨zb, b0, b1, b2, b3⟩ := BB.out.below HB3.out
  have OB3 := hid (OB.out.below HB3.out)
  obtain ⟨hz, z0, z1, z2, z3, zf⟩ := OB3.out
  have CF1 : Hid (∀ W, Below w3.heap.size w3 W → Calls Tryz.prog 49 #[.agg #[.int .i64 i1, .bool s1, .slice x1 n1 c1, .slice y1 m1 d1]] W fun e w' => ∃ s x n c d y m c' g, e = .returned (.agg #[.int .i64 i1, .bool s, .slice x n c, .slice y m c']) ∧ Below W.heap.size W w' ∧ Hid (n ≤ 200 ∧ m ≤ 200 ∧ Fn w' i1 s x n d y m g qa)) := fun W hW => xFrom_c (E1.out.below hW) (by omega)
  have CF2 : Hid (∀ W, Below w3.heap.size w3 W → Calls Tryz.prog 49 #[.agg #[.int .i64 i2, .bool s2, .slice x2 n2 c2, .slice y2 m2 d2]] W fun e w' => ∃ s x n c d y m c' g, e = .returned (.agg #[.int .i64 i2, .bool s, .slice x n c, .slice y m c']) ∧ Below W.heap.size W w' ∧ Hid (n ≤ 200 ∧ m ≤ 200 ∧ Fn w' i2 s x n d y m g qb)) := fun W hW => xFrom_c (E2.out.below hW) (by omega)
  have CC : Hid (∀ (W : World) (s5 : Bool) (x5 : Option Addr) (n5 c5 : Nat) (d5 : Nat → Int) (y5 : Option Addr) (m5 e5 : Nat) (g5 : Nat → Int) (s6 : Bool) (x6 : Option Addr) (n6 c6 : Nat) (d6 : Nat → Int) (y6 : Option Addr) (m6 e6 : Nat) (g6 : Nat → Int), n5 ≤ 200 → m5 ≤ 200 → n6 ≤ 200 → m6 ≤ 200 → Fn W i1 s5 x5 n5 d5 y5 m5 g5 qa → Fn W i2 s6 x6 n6 d6 y6 m6 g6 qb → Calls Tryz.prog 56 #[.agg #[.int .i64 i1, .bool s5, .slice x5 n5 c5, .slice y5 m5 e5], .agg #[.int .i64 i2, .bool s6, .slice x6 n6 c6, .slice y6 m6 e6]] W fun e w' => ∃ i s x n c d y m c' g q, e = .returned (.agg #[.int .i64 i, .bool s, .slice x n c, .slice y m c']) ∧ Below W.heap.size W w' ∧ Hid (n ≤ 200 ∧ m ≤ 200 ∧ Fn w' i s x n d y m g q ∧ EMin i1 qa i2 qb i q)) := fun W s5 x5 n5 c5 d5 y5 m5 e5 g5 s6 x6 n6 c6 d6 y6 m6 e6 g6 l1 l2 l3 l4 k1 k2 => xMin_c k1 k2 (by omega) l1 l2 l3 l4
  have CT : Hid (∀ (W : World) (i : Int) (s : Bool) (x : Option Addr) (n c : Nat) (d : Nat → Int) (y : Option Addr) (m e : Nat) (g : Nat → Int) (q : Rat), n ≤ 200 → m ≤ 200 → Fn W i s x n d y m g q → Calls Tryz.prog 42 #[.agg #[.int .i64 i, .bool s, .slice x n c, .slice y m e]] W fun en w' => ∃ z k c' f z2 k2 c2 f2, en = .returned (.agg #[.int .i64 i, .bool s, .slice z k c', .slice z2 k2 c2]) ∧ Below W.heap.size W w' ∧ Hid (En 2000 w' i s z k c' f z2 k2 c2 f2 q)) := fun W i s x n c d y m e g q l1 l2 k1 => (xTo_c k1 (by omega) (by omega)).mono (fun _ _ ⟨z, k, c', f, z2, k2, c2, f2, j1, j2, j3⟩ => ⟨z, k, c', f, z2, k2, c2, f2, j1, j2, j3.out.mono (by omega)⟩)
  go_wp2_with fail
  go_region_held3 (fun w' => w'.cell? ⟨w.heap.size, 0, none⟩ = some (.int .i64 i1) ∧ w'.cell? ⟨w.heap.size, 1, none⟩ = some (.bool s1) ∧ w'.cell? ⟨w.heap.size, 2, none⟩ = some (.slice x1 n1 c1) ∧ w'.cell? ⟨w.heap.size, 3, none⟩ = some (.slice y1 m1 d1) ∧ w'.cell? ⟨w.heap.size + 1, 0, none⟩ = some (.int .i64 i2) ∧ w'.cell? ⟨w.heap.size + 1, 1, none⟩ = some (.bool s2) ∧ w'.cell? ⟨w.heap.size + 1, 2, none⟩ = some (.slice x2 n2 c2) ∧ w'.cell? ⟨w.heap.size + 1, 3, none⟩ = some (.slice y2 m2 d2) ∧ (w'.cell? ⟨w.heap.size + 1 + 1, 0, none⟩).isSome = true ∧ (w'.cell? ⟨w.heap.size + 1 + 1, 1, none⟩).isSome = true ∧ (w'.cell? ⟨w.heap.size + 1 + 1, 2, none⟩).isSome = true ∧ (w'.cell? ⟨w.heap.size + 1 + 1, 3, none⟩).isSome = true ∧ w'.frozen? ⟨w.heap.size + 1 + 1, 0, none⟩ = false ∧ w'.frozen? ⟨w.heap.size + 1 + 1, 1, none⟩ = false ∧ w'.frozen? ⟨w.heap.size + 1 + 1, 2, none⟩ = false ∧ w'.frozen? ⟨w.heap.size + 1 + 1, 3, none⟩ = false)
    (refine ⟨?_, ?_, ?_, ?_, ?_, ?_, ?_, ?_, ?_, ?_, ?_, ?_, ?_, ?_, ?_, ?_⟩ <;> repeat (with_reducible first | assumption | exact zf _ | exact tf _ | exact uf _ | exact vf' _ | exact rf' _ | exact kI0 z0 | exact kI0 z1 | exact kI0 z2 | exact kI0 z3 | exact kI0 t0 | exact kI0 t1 | exact kI0 t2 | exact kI0 t3 | exact kI0 u0 | exact kI0 u1 | exact kI0 u2 | exact kI0 u3 | exact kI0 v0 | exact kI0 v1 | exact kI0 v2 | exact kI0 v3 | exact kI0 r0 | exact kI0 r1 | exact kI0 r2 | exact kI0 r3 | refine kCd ?_ | refine kId ?_ | refine kFd ?_ | refine kCs (by simp only [ne_eq]; omega) ?_ | refine kIs ?_ | refine kFs ?_ | refine kCb (by assumption) ?_ | refine kIb (by assumption) ?_))
    (first
      | (go_at_call 49; with_reducible refine (CF1.out _ (by repeat (with_reducible first | assumption | exact Below.refl _ _ | refine Below.drew ?_ | refine kBb (by assumption) ?_))).mono ?_; rintro e v5 ⟨s5, x5, n5, c5, d5, y5, m5, e5, g5, rfl, hb5, H5⟩; have Tt : Ob4 v5 (w.heap.size + 1 + 1) := (by repeat (with_reducible first | exact OB3.out | exact Tt | exact Tu | exact Tv | exact Tr | refine Ob4.drew ?_ | refine kO4b (by assumption) ?_)); obtain ⟨_, t0, t1, t2, t3, tf⟩ := id Tt)
      | (go_at_call 49; with_reducible refine (CF2.out _ (by repeat (with_reducible first | assumption | exact Below.refl _ _ | refine Below.drew ?_ | refine kBb (by assumption) ?_))).mono ?_; rintro e v6 ⟨s6, x6, n6, c6, d6, y6, m6, e6, g6, rfl, hb6, H6⟩; have Tu : Ob4 v6 (w.heap.size + 1 + 1) := (by repeat (with_reducible first | exact OB3.out | exact Tt | exact Tu | exact Tv | exact Tr | refine Ob4.drew ?_ | refine kO4b (by assumption) ?_)); obtain ⟨_, u0, u1, u2, u3, uf⟩ := id Tu)
      | (go_at_call 56; with_reducible refine (CC.out _ s5 x5 n5 c5 d5 y5 m5 e5 g5 s6 x6 n6 c6 d6 y6 m6 e6 g6 H5.out.1 H5.out.2.1 H6.out.1 H6.out.2.1 (by repeat (with_reducible first | exact H5.out.2.2 | refine kFnd ?_ | refine kFnb (by assumption) ?_)) (by repeat (with_reducible first | exact H6.out.2.2 | refine kFnd ?_ | refine kFnb (by assumption) ?_))).mono ?_; rintro e v7 ⟨i7, s7, x7, n7, c7, d7, y7, m7, e7, g7, q7, rfl, hb7, H7⟩; have Tv : Ob4 v7 (w.heap.size + 1 + 1) := (by repeat (with_reducible first | exact OB3.out | exact Tt | exact Tu | exact Tv | exact Tr | refine Ob4.drew ?_ | refine kO4b (by assumption) ?_)); obtain ⟨_, v0, v1, v2, v3, vf'⟩ := id Tv)
      | (go_at_call 42; with_reducible refine (CT.out _ i7 s7 x7 n7 c7 d7 y7 m7 e7 g7 q7 H7.out.1 H7.out.2.1 (by repeat (with_reducible first | exact H7.out.2.2.1 | refine kFnd ?_ | refine kFnb (by assumption) ?_))).mono ?_; rintro e v8 ⟨x8, n8, c8, f8, y8, m8, d8, g8, rfl, hb8, H8⟩; have Tr : Ob4 v8 (w.heap.size + 1 + 1) := (by repeat (with_reducible first | exact OB3.out | exact Tt | exact Tu | exact Tv | exact Tr | refine Ob4.drew ?_ | refine kO4b (by assumption) ?_)); obtain ⟨_, r0, r1, r2, r3, rf'⟩ := id Tr))
  all_goals
    have hb : Below w3.heap.size w3 v8 := (by repeat (with_reducible first | assumption | exact Below.refl _ _ | refine Below.drew ?_ | refine kBb (by assumption) ?_))
    go_wp2
    exact bodyPost_ret (v := .tuple #[.agg #[.int .i64 i7, .bool s7, .slice x8 n8 c8, .slice y8 m8 d8], .int .i64 0]) (by simp [results, Tryz.results19, go_sem, r0, r1, r2, r3]) rfl ⟨i7, s7, x8, n8, c8, f8, y8, m8, d8, g8, 0, rfl, below_st4 (HB.out.trans (hb.mono HB.out.size)) (by omega), .inr ⟨rfl, rfl, q7, H7.out.2.2.2, ⟨Tr.rn H8.out.rn, H8.out.inf⟩⟩⟩

set_option maxRecDepth 100000 in
set_option maxHeartbeats 4000000 in
theorem lsame_c {w : World} {i1 : Int} {s1 : Bool} {x1 : Option Addr} {n1 c1 : Nat} {y1 : Option Addr} {m1 d1 : Nat} {i2 : Int} {s2 : Bool} {x2 : Option Addr} {n2 c2 : Nat} {y2 : Option Addr} {m2 d2 : Nat} {er : Int} (hS : ∀ W, Below w.heap.size w W → Calls Tryz.prog 35 #[.agg #[.int .i64 i1, .bool s1, .slice x1 n1 c1, .slice y1 m1 d1], .agg #[.int .i64 i2, .bool s2, .slice x2 n2 c2, .slice y2 m2 d2]] W fun e w' => e = .returned (.bool true) ∧ Below W.heap.size W w') :
    Calls Tryz.prog 17 #[.agg #[.int .i64 i1, .bool s1, .slice x1 n1 c1, .slice y1 m1 d1], .int .i64 er, .agg #[.int .i64 i2, .bool s2, .slice x2 n2 c2, .slice y2 m2 d2], .int .i64 er] w fun e w' => e = .returned (.bool true) ∧ Below w.heap.size w w' := by
  have h1 := (bx4_at w (.int .i64 i1) (.bool s1) (.slice x1 n1 c1) (.slice y1 m1 d1) 26).alloc (.cells #[.int .i64 i2, .bool s2, .slice x2 n2 c2, .slice y2 m2 d2] 26)
  have h2 := bx4_at (w.alloc (.cells #[.int .i64 i1, .bool s1, .slice x1 n1 c1, .slice y1 m1 d1] 26)) (.int .i64 i2) (.bool s2) (.slice x2 n2 c2) (.slice y2 m2 d2) 26
  rw [size_alloc1] at h2
  have h3 := below_alloc (below_alloc (Below.refl w.heap.size w) (.cells #[.int .i64 i1, .bool s1, .slice x1 n1 c1, .slice y1 m1 d1] 26)) (.cells #[.int .i64 i2, .bool s2, .slice x2 n2 c2, .slice y2 m2 d2] 26)
  have HS := hid (hS _ h3)
  have hee : (er == er) = true := by simp
  clear hS
  go_enter Tryz.func17, Tryz.ntmps17
  go_upto_region 1 with fail
  generalize (w.alloc (.cells #[.int .i64 i1, .bool s1, .slice x1 n1 c1, .slice y1 m1 d1] 26)).alloc (.cells #[.int .i64 i2, .bool s2, .slice x2 n2 c2, .slice y2 m2 d2] 26) = w1 at *
  have HW := hid h3
  obtain ⟨za, a0, a1, a2, a3⟩ := h1
  obtain ⟨zb, b0, b1, b2, b3⟩ := h2
  clear h3
  go_wp2_with fail
  refine HS.out.mono ?_
  rintro e w2 ⟨rfl, hb⟩
  have HB := hid (HW.out.trans (hb.mono HW.out.size))
  clear hb
  go_wp2
  go_ret
  exact ⟨rfl, HB.out⟩

set_option maxRecDepth 100000 in
set_option maxHeartbeats 4000000 in
theorem elight_c {w : World} {i1 : Int} {s1 : Bool} {x1 : Option Addr} {n1 c1 : Nat} {y1 : Option Addr} {m1 d1 : Nat} {i2 : Int} {s2 : Bool} {x2 : Option Addr} {n2 c2 : Nat} {y2 : Option Addr} {m2 d2 : Nat} (l1 : n1 ≤ 9223372036854775807) (l2 : m1 ≤ 9223372036854775807) (l3 : n2 ≤ 9223372036854775807) (l4 : m2 ≤ 9223372036854775807) :
    Calls Tryz.prog 9 #[.agg #[.int .i64 i1, .bool s1, .slice x1 n1 c1, .slice y1 m1 d1], .agg #[.int .i64 i2, .bool s2, .slice x2 n2 c2, .slice y2 m2 d2]] w fun e w' => e = .returned (.bool (lg n1 m1 20 && lg n2 m2 20)) ∧ Below w.heap.size w w' := by
  have h1 := (bx4_at w (.int .i64 i1) (.bool s1) (.slice x1 n1 c1) (.slice y1 m1 d1) 26).alloc (.cells #[.int .i64 i2, .bool s2, .slice x2 n2 c2, .slice y2 m2 d2] 26)
  have h2 := bx4_at (w.alloc (.cells #[.int .i64 i1, .bool s1, .slice x1 n1 c1, .slice y1 m1 d1] 26)) (.int .i64 i2) (.bool s2) (.slice x2 n2 c2) (.slice y2 m2 d2) 26
  rw [size_alloc1] at h2
  have h3 := below_alloc (below_alloc (Below.refl w.heap.size w) (.cells #[.int .i64 i1, .bool s1, .slice x1 n1 c1, .slice y1 m1 d1] 26)) (.cells #[.int .i64 i2, .bool s2, .slice x2 n2 c2, .slice y2 m2 d2] 26)
  have C1 := hid (fun W => rLight_c s1 x1 y1 n1 c1 m1 d1 W l1 l2)
  have C2 := hid (fun W => rLight_c s2 x2 y2 n2 c2 m2 d2 W l3 l4)
  obtain ⟨p, hp⟩ : ∃ p, lg n1 m1 20 = p := ⟨_, rfl⟩
  obtain ⟨q, hq⟩ : ∃ p, lg n2 m2 20 = p := ⟨_, rfl⟩
  rw [hp, hq]
  rw [hp] at C1
  rw [hq] at C2
  clear hp hq
  go_enter Tryz.func9, Tryz.ntmps9
  go_upto_region 1 with fail
  generalize (w.alloc (.cells #[.int .i64 i1, .bool s1, .slice x1 n1 c1, .slice y1 m1 d1] 26)).alloc (.cells #[.int .i64 i2, .bool s2, .slice x2 n2 c2, .slice y2 m2 d2] 26) = w1 at *
  have HW := hid h3; have BB := hid h2
  obtain ⟨za, a0, a1, a2, a3⟩ := h1
  clear h2 h3
  go_wp2_with fail
  refine (C1.out _).mono ?_
  rintro e w2 ⟨rfl, hb⟩
  have HB := hid (HW.out.trans (hb.mono HW.out.size)); have BB2 := hid (BB.out.below hb)
  clear hb za a0 a1 a2 a3
  cases p
  · go_wp2
    go_ret
    exact ⟨rfl, HB.out⟩
  obtain ⟨zb, b0, b1, b2, b3⟩ := BB2.out
  go_wp2_with fail
  refine (C2.out _).mono ?_
  rintro e w3 ⟨rfl, hb⟩
  have HB3 := hid (HB.out.trans (hb.mono HB.out.size))
  clear hb
  go_wp2
  go_ret
  exact ⟨rfl, HB3.out⟩

set_option maxRecDepth 100000 in
set_option maxHeartbeats 4000000 in
theorem num4_c {w : World} {z : Int} (l1 : -9223372036854775808 ≤ z) (l2 : z ≤ 9223372036854775807) : Calls Tryz.prog 40 #[.int .i64 z] w fun e w' => ∃ s x n c f y m d g, e = .returned (.agg #[.int .i64 0, .bool s, .slice x n c, .slice y m d]) ∧ Below w.heap.size w w' ∧ Hid (En 4 w' 0 s x n c f y m d g (z : Rat)) := by
  have h2 := ob4_new w 26
  have h3 := below_alloc (Below.refl w.heap.size w) (.cells #[.int .i64 0, .bool false, .slice none 0 0, .slice none 0 0] 26)
  go_enter Tryz.func40, Tryz.ntmps40
  go_wp2_with fail
  generalize w.alloc (.cells #[.int .i64 0, .bool false, .slice none 0 0, .slice none 0 0] 26) = w1 at *
  have OB := hid h2; have HW := hid h3
  clear h2 h3
  refine (qInt_c l1 l2).mono ?_
  rintro e w2 ⟨s2, x2, n2, c2, d2, y2, m2, e2, g2, rfl, hb, hl1, hl2, hq⟩
  have HB2 := hid hb; have Q2 := hid hq
  clear hb hq
  go_wp2_with fail
  refine (xNum_c Q2.out).mono ?_
  rintro e w3 ⟨rfl, hb, hf⟩
  have HB3 := hid (HB2.out.trans (hb.mono HB2.out.size)); have F3 := hid hf
  clear hb hf
  go_wp2_with fail
  refine (xTo_c F3.out (by omega) (by omega)).mono ?_
  rintro e w4 ⟨x4, n4, c4, f4, y4, m4, d4, g4, rfl, hb, H4⟩
  have HB4 := hid (HW.out.trans ((HB3.out.trans (hb.mono HB3.out.size)).mono HW.out.size)); have OB4 := hid ((OB.out.below HB3.out).below hb)
  clear hb
  obtain ⟨hz, z0, z1, z2, z3, zf⟩ := OB4.out
  go_wp2
  exact bodyPost_ret (v := .agg #[.int .i64 0, .bool s2, .slice x4 n4 c4, .slice y4 m4 d4]) (by simp [results, Tryz.results40, go_sem, z0, z1, z2, z3]) rfl ⟨s2, x4, n4, c4, f4, y4, m4, d4, g4, rfl, below_st4 HB4.out (Nat.le_refl _), ⟨OB4.out.rn (H4.out.rn.mono (by omega)), .inl rfl⟩⟩
end Go.Proofs.YtbindadjepfkcaaGreatDoor
namespace Go.Proofs.YtbindadjepfkcaaGreatDoor
open Go.RowKit

theorem kLid {w B a0 a1 a2 a3 b0 b1 b2 b3} (h : Li2 w B a0 a1 a2 a3 b0 b1 b2 b3) : Li2 w.drew B a0 a1 a2 a3 b0 b1 b2 b3 := ⟨h.z, h.x0, h.x1, h.x2, h.x3, h.y0, h.y1, h.y2, h.y3⟩
set_option maxRecDepth 100000 in
set_option maxHeartbeats 4000000 in
theorem enumber_c {w : World} {s : Bool} {x : Option Addr} {n c : Nat} {y : Option Addr} {m d : Nat} : Calls Tryz.prog 57 #[.agg #[.bool s, .slice x n c, .slice y m d]] w fun e w' => e = .returned (.agg #[.int .i64 0, .bool s, .slice x n c, .slice y m d]) ∧ Below w.heap.size w w' := by
  have h1 := (bx3_at w (.bool s) (.slice x n c) (.slice y m d) 24).alloc (.cells #[.int .i64 0, .bool false, .slice none 0 0, .slice none 0 0] 26)
  have h2 := ob4_new (w.alloc (.cells #[.bool s, .slice x n c, .slice y m d] 24)) 26
  rw [size_alloc1] at h2
  have h3 := below_alloc (below_alloc (Below.refl w.heap.size w) (.cells #[.bool s, .slice x n c, .slice y m d] 24)) (.cells #[.int .i64 0, .bool false, .slice none 0 0, .slice none 0 0] 26)
  go_enter Tryz.func57, Tryz.ntmps57
  go_upto_region 1 with fail
  generalize (w.alloc (.cells #[.bool s, .slice x n c, .slice y m d] 24)).alloc (.cells #[.int .i64 0, .bool false, .slice none 0 0, .slice none 0 0] 26) = w1 at *
  have HW := hid h3
  obtain ⟨z, x0, x1, x2⟩ := h1
  obtain ⟨hz, z0, z1, z2, z3, zf⟩ := h2
  clear h3
  go_wp2
  exact bodyPost_ret (v := .agg #[.int .i64 0, .bool s, .slice x n c, .slice y m d]) (by simp [results, Tryz.results57, go_sem, z0, z1, z2, z3]) rfl ⟨rfl, below_st4 HW.out (by omega)⟩

set_option maxRecDepth 100000 in
set_option maxHeartbeats 4000000 in
theorem eScaleLow_c {w : World} {s : Bool} {x : Option Addr} {n c : Nat} {f : Nat → Int} {y : Option Addr} {m d : Nat} {g : Nat → Int} {x2 : Option Addr} {n2 c2 : Nat} {f2 : Nat → Int} {y2 : Option Addr} {m2 d2 : Nat} {g2 : Nat → Int} {q : Rat} (h : En 4 w (-1) s x n c f y m d g 0) (hr : Rn 4 w true x2 n2 c2 f2 y2 m2 d2 g2 q) :
    Calls Tryz.prog 28 #[.agg #[.int .i64 (-1), .bool s, .slice x n c, .slice y m d], .agg #[.bool true, .slice x2 n2 c2, .slice y2 m2 d2]] w fun e w' => ∃ s x n c f y m d g, e = .returned (.tuple #[.agg #[.int .i64 1, .bool s, .slice x n c, .slice y m d], .int .i64 0]) ∧ Below w.heap.size w w' ∧ Hid (En 4 w' 1 s x n c f y m d g 0) := by
  have hn2 : 0 < n2 := sgn_of_wfB hr.num.wf rfl
  have k1 := ((bx4_at w (.int .i64 (-1)) (.bool s) (.slice x n c) (.slice y m d) 26).alloc (.cells #[.bool true, .slice x2 n2 c2, .slice y2 m2 d2] 24)).alloc (.cells #[.int .i64 0, .bool false, .slice none 0 0, .slice none 0 0] 26)
  have k2 := (bx3_at (w.alloc (.cells #[.int .i64 (-1), .bool s, .slice x n c, .slice y m d] 26)) (.bool true) (.slice x2 n2 c2) (.slice y2 m2 d2) 24).alloc (.cells #[.int .i64 0, .bool false, .slice none 0 0, .slice none 0 0] 26)
  rw [size_alloc1] at k2
  have k5 := ob4_new ((w.alloc (.cells #[.int .i64 (-1), .bool s, .slice x n c, .slice y m d] 26)).alloc (.cells #[.bool true, .slice x2 n2 c2, .slice y2 m2 d2] 24)) 26
  rw [size_alloc1, size_alloc1] at k5
  have k3 := below_alloc (below_alloc (below_alloc (Below.refl w.heap.size w) (.cells #[.int .i64 (-1), .bool s, .slice x n c, .slice y m d] 26)) (.cells #[.bool true, .slice x2 n2 c2, .slice y2 m2 d2] 24)) (.cells #[.int .i64 0, .bool false, .slice none 0 0, .slice none 0 0] 26)
  have HE := hid (h.below k3); have HR := hid (hr.below k3)
  have hl1 := h.rn.ln; have hl2 := h.rn.ld; have hl3 := hr.ln; have hl4 := hr.ld
  have hnd : decide (n2 = 0) = false := decide_eq_false (by omega)
  clear h hr
  go_enter Tryz.func28, Tryz.ntmps28
  go_upto_region 1 with fail
  generalize ((w.alloc (.cells #[.int .i64 (-1), .bool s, .slice x n c, .slice y m d] 26)).alloc (.cells #[.bool true, .slice x2 n2 c2, .slice y2 m2 d2] 24)).alloc (.cells #[.int .i64 0, .bool false, .slice none 0 0, .slice none 0 0] 26) = w1 at *
  have HW := hid k3; have OB := hid k5; have BA := hid k1; have BB := hid k2
  clear k1 k2 k3 k5
  have CN : Hid (∀ W : World, Calls Tryz.prog 57 #[.agg #[.bool true, .slice x2 n2 c2, .slice y2 m2 d2]] W fun e w' => e = .returned (.agg #[.int .i64 0, .bool true, .slice x2 n2 c2, .slice y2 m2 d2]) ∧ Below W.heap.size W w') := fun W => enumber_c
  have CAF : Hid (∀ (W : World) (B : Nat), Li2 W B (.int .i64 (-1)) (.bool s) (.slice x n c) (.slice y m d) (.int .i64 0) (.bool true) (.slice x2 n2 c2) (.slice y2 m2 d2) → Below w1.heap.size w1 W → Calls Tryz.prog 45 #[.slice (some ⟨B, 0, none⟩) 2 2] W fun e w' => e = .returned (.bool true) ∧ Below W.heap.size W w') := fun W B hB hW => by
    have e1 := HE.out.below hW
    have e2 : En 4 W 0 true x2 n2 c2 f2 y2 m2 d2 g2 q := ⟨HR.out.below hW, .inl rfl⟩
    have := allForm2_c hB e1.rn.rw e2.rn.rw (by omega) (by omega) (by omega) (by omega)
    rw [e1.ef, e2.ef] at this
    exact this
  obtain ⟨za, a0, a1, a2, a3⟩ := BA.out
  obtain ⟨zb, b0, b1, b2⟩ := BB.out
  go_region_held3 (fun w' => w'.cell? ⟨w.heap.size, 0, none⟩ = some (.int .i64 (-1)) ∧ w'.cell? ⟨w.heap.size, 1, none⟩ = some (.bool s) ∧ w'.cell? ⟨w.heap.size, 2, none⟩ = some (.slice x n c) ∧ w'.cell? ⟨w.heap.size, 3, none⟩ = some (.slice y m d) ∧ w'.cell? ⟨w.heap.size + 1, 0, none⟩ = some (.bool true) ∧ w'.cell? ⟨w.heap.size + 1, 1, none⟩ = some (.slice x2 n2 c2) ∧ w'.cell? ⟨w.heap.size + 1, 2, none⟩ = some (.slice y2 m2 d2))
    (refine ⟨?_, ?_, ?_, ?_, ?_, ?_, ?_⟩ <;> repeat (with_reducible first | assumption | refine kCd ?_ | refine kCa ?_ | refine kCb (by assumption) ?_))
    (first
      | (go_at_call 57; with_reducible refine (CN.out _).mono ?_; rintro e v5 ⟨rfl, hb5⟩)
      | (go_at_call 45; with_reducible refine (CAF.out _ _ (by repeat (with_reducible first | exact li2_at _ _ _ _ _ _ _ _ _ _ | refine kLid ?_)) (by repeat (with_reducible first | assumption | exact Below.refl _ _ | refine Below.drew ?_ | refine kBa ?_ | refine kBb (by assumption) ?_))).mono ?_; rintro e v6 ⟨rfl, hb6⟩))
  all_goals
    have hb : Below w1.heap.size w1 v6 := (by repeat (with_reducible first | assumption | exact Below.refl _ _ | refine Below.drew ?_ | refine kBa ?_ | refine kBb (by assumption) ?_))
    have HB6 := hid hb
    clear hb za a0 a1 a2 a3 zb b0 b1 b2
    obtain ⟨za, a0, a1, a2, a3⟩ := BA.out.below HB6.out
    obtain ⟨zb, b0, b1, b2⟩ := BB.out.below HB6.out
    go_wp2_with fail
    refine eIsZero_c.mono ?_
    rintro e w7 ⟨rfl, hb⟩
    rw [hnd]
    have HB7 := hid (HB6.out.trans (hb.mono HB6.out.size))
    clear hb za a0 a1 a2 a3 zb b0 b1 b2
    obtain ⟨za, a0, a1, a2, a3⟩ := BA.out.below HB7.out
    obtain ⟨zb, b0, b1, b2⟩ := BB.out.below HB7.out
    go_wp2_with fail
    refine eInf_c.mono ?_
    rintro e w8 ⟨s8, x8, n8, c8, f8, y8, m8, d8, g8, rfl, hb, hr8⟩
    have HB8 := hid (HW.out.trans ((HB7.out.trans (hb.mono HB7.out.size)).mono HW.out.size)); have OB8 := hid ((OB.out.below HB7.out).below hb); have R8 := hid hr8
    clear hb hr8 za a0 a1 a2 a3 zb b0 b1 b2
    obtain ⟨hz, z0, z1, z2, z3, zf⟩ := OB8.out
    go_wp2
    exact bodyPost_ret (v := .tuple #[.agg #[.int .i64 1, .bool s8, .slice x8 n8 c8, .slice y8 m8 d8], .int .i64 0]) (by simp [results, Tryz.results28, go_sem, z0, z1, z2, z3]) rfl ⟨s8, x8, n8, c8, f8, y8, m8, d8, g8, rfl, below_st4 HB8.out (by omega), ⟨OB8.out.rn R8.out, .inr ⟨by decide, rfl⟩⟩⟩

set_option maxRecDepth 100000 in
set_option maxHeartbeats 4000000 in
theorem eTextHigh_c {w : World} {s : Bool} {x : Option Addr} {n c : Nat} {f : Nat → Int} {y : Option Addr} {m d : Nat} {g : Nat → Int} (h : En 4 w 1 s x n c f y m d g 0) :
    Calls Tryz.prog 30 #[.agg #[.int .i64 1, .bool s, .slice x n c, .slice y m d]] w fun e w' => e = .returned (.tuple #[.string ⟨#[105, 110, 102]⟩, .int .i64 0]) ∧ Below w.heap.size w w' := by
  have BX := hid (bx4_at w (.int .i64 1) (.bool s) (.slice x n c) (.slice y m d) 26)
  have HW := hid (below_alloc (Below.refl w.heap.size w) (.cells #[.int .i64 1, .bool s, .slice x n c, .slice y m d] 26))
  have HE := hid (h.alloc (.cells #[.int .i64 1, .bool s, .slice x n c, .slice y m d] 26))
  have hl1 := h.rn.ln; have hl2 := h.rn.ld
  clear h
  go_enter Tryz.func30, Tryz.ntmps30
  go_upto_region 1 with fail
  generalize w.alloc (.cells #[.int .i64 1, .bool s, .slice x n c, .slice y m d] 26) = w1 at *
  obtain ⟨z, x0, x1, x2, x3⟩ := BX.out
  have cf := fun (t : TypeId) => allForm1_c (bx4_at w1 (.int .i64 1) (.bool s) (.slice x n c) (.slice y m d) t) (HE.out.rn.rw.alloc _) (by omega) (by omega)
  rw [HE.out.ef] at cf
  have CF := hid cf
  clear cf
  go_wp2_with fail
  refine (CF.out _).mono ?_
  rintro e w2 ⟨rfl, hb⟩
  have HB1 : Hid (Below w1.heap.size w1 w2) := (below_alloc (Below.refl _ _) _).trans (hb.mono (by simp))
  have HB := hid (HW.out.trans (HB1.out.mono HW.out.size))
  clear hb z x0 x1 x2 x3 CF
  obtain ⟨z, x0, x1, x2, x3⟩ := BX.out.below HB1.out
  go_wp2
  go_ret2
  exact ⟨rfl, HB.out⟩

theorem q45 : ((3 : Int) : Rat) < ((4 : Int) : Rat) := by decide +kernel
theorem cmp_low {p : Bool} {r er : Int} (h : OC true (-1) 0 0 ((-5 : Int) : Rat) r er) (_hp : p = true) : r = -1 ∧ er = 0 := by
  rcases h with ⟨h1, _⟩ | ⟨_, h1, h2⟩
  · cases h1
  · rcases h2 with ⟨h2, _⟩ | ⟨_, h2, _⟩ | ⟨_, h2 | ⟨h2, _⟩⟩
    · exact ⟨h2, h1⟩
    · omega
    · omega
    · omega
theorem max_34 {k : Int} {q : Rat} (h : EMax 0 ((3 : Int) : Rat) 0 ((4 : Int) : Rat) k q) : k = 0 ∧ q = ((4 : Int) : Rat) := by
  have h0 : EOrd (-1) 0 ((3 : Int) : Rat) 0 ((4 : Int) : Rat) := .inl ⟨rfl, .inr ⟨rfl, q45⟩⟩
  exact h.uniq ⟨-1, h0, .inl ⟨by decide, rfl, rfl⟩⟩
theorem ef_bad : efB 1 false (fun _ => 0) 0 (fun _ => 0) 0 = false := by decide

set_option maxRecDepth 100000 in
set_option maxHeartbeats 4000000 in
theorem eAwake_c (w : World) : Calls Tryz.prog 8 #[] w fun e w' => e = .returned (.bool true) ∧ Below w.heap.size w w' := by
  go_enter Tryz.func8, Tryz.ntmps8
  go_wp2_with fail
  refine eLow_c.mono ?_
  rintro e w1 ⟨aas, aax, aan, aac, aaf, aay, aam, aad, aag, rfl, hb, hr⟩
  have HW1 := hid hb; have L1 := hid hr
  clear hb hr
  go_wp2_with fail
  refine (docOfQ_c (z := -2) (by decide) (by decide)).mono ?_
  rintro e w2 ⟨bbs, bbx, bbn, bbc, bbf, bby, bbm, bbd, bbg, rfl, hb, hr⟩
  have hneg : bbs = true := by
    have h1 := hr.num.sgn
    rw [Rat.num_intCast] at h1
    cases bbs
    · simp [sg] at h1
    · rfl
  subst hneg
  have HW2 := hid (HW1.out.trans (hb.mono HW1.out.size)); have L2 := hid (L1.out.below hb); have R2 := hid hr
  clear hb hr L1 HW1
  go_wp2_with fail
  refine (eScaleLow_c L2.out R2.out).mono ?_
  rintro e w3 ⟨ps, px, pn, pc, pf, py, pm, pd, pg, rfl, hb, HA3⟩
  have HW3 := hid (below_alloc (HW2.out.trans (hb.mono HW2.out.size)) (.cells #[.int .i64 1, .bool ps, .slice px pn pc, .slice py pm pd] 26)); have A3 := hid (HA3.out.alloc (.cells #[.int .i64 1, .bool ps, .slice px pn pc, .slice py pm pd] 26)); have BA3 := hid (bx4_at w3 (.int .i64 1) (.bool ps) (.slice px pn pc) (.slice py pm pd) 26)
  clear hb HA3 HW2 L2 R2
  go_wp2_with fail
  generalize w3.alloc (.cells #[.int .i64 1, .bool ps, .slice px pn pc, .slice py pm pd] 26) = w4 at *
  generalize w3.heap.size = bA at *
  refine eLow_c.mono ?_
  rintro e w5 ⟨a2s, a2x, a2n, a2c, a2f, a2y, a2m, a2d, a2g, rfl, hb, hr⟩
  have HW5 := hid (HW3.out.trans (hb.mono HW3.out.size)); have A5 := hid (A3.out.below hb); have BA5 := hid (BA3.out.below hb); have L5 := hid hr
  clear hb hr HW3 A3 BA3
  go_wp2_with fail
  refine (num4_c (z := -5) (by decide) (by decide)).mono ?_
  rintro e w6 ⟨b2s, b2x, b2n, b2c, b2f, b2y, b2m, b2d, b2g, rfl, hb, H6⟩
  have HW6 := hid (HW5.out.trans (hb.mono HW5.out.size)); have A6 := hid (A5.out.below hb); have BA6 := hid (BA5.out.below hb); have L6 := hid (L5.out.below hb)
  clear hb HW5 A5 BA5 L5
  have l1 := L6.out.rn.ln; have l2 := L6.out.rn.ld; have l3 := H6.out.rn.ln; have l4 := H6.out.rn.ld
  go_wp2_with fail
  refine (eCmp_g L6.out.rn.rw H6.out.rn.rw (by omega) (by omega) (by omega) (by omega) L6.out.ef H6.out.ef (fun _ => L6.out.mono (by omega)) (fun _ => H6.out.mono (by omega))).mono ?_
  rintro e w7 ⟨r7, er7, rfl, hb, H7⟩
  obtain ⟨rfl, rfl⟩ := cmp_low (p := true) H7.out rfl
  have HW7 := hid (HW6.out.trans (hb.mono HW6.out.size)); have A7 := hid (A6.out.below hb); have BA7 := hid (BA6.out.below hb)
  clear hb HW6 A6 BA6 L6 H6 H7 l1 l2 l3 l4
  go_wp2_with fail
  refine eHigh_c.mono ?_
  rintro e w8 ⟨a3s, a3x, a3n, a3c, a3f, a3y, a3m, a3d, a3g, rfl, hb, hr⟩
  have HW8 := hid (HW7.out.trans (hb.mono HW7.out.size)); have A8 := hid (A7.out.below hb); have BA8 := hid (BA7.out.below hb); have L8 := hid hr
  clear hb hr HW7 A7 BA7
  go_wp2_with fail
  refine (eTextHigh_c L8.out).mono ?_
  rintro e w9 ⟨rfl, hb⟩
  have HW9 := hid (HW8.out.trans (hb.mono HW8.out.size)); have A9 := hid (A8.out.below hb); have BA9 := hid (BA8.out.below hb)
  clear hb HW8 A8 BA8 L8
  go_wp2_with fail
  refine (num4_c (z := 3) (by decide) (by decide)).mono ?_
  rintro e w10 ⟨a4s, a4x, a4n, a4c, a4f, a4y, a4m, a4d, a4g, rfl, hb, H10⟩
  have HW10 := hid (HW9.out.trans (hb.mono HW9.out.size)); have A10 := hid (A9.out.below hb); have BA10 := hid (BA9.out.below hb)
  clear hb HW9 A9 BA9
  go_wp2_with fail
  refine (num4_c (z := 4) (by decide) (by decide)).mono ?_
  rintro e w11 ⟨b4s, b4x, b4n, b4c, b4f, b4y, b4m, b4d, b4g, rfl, hb, H11⟩
  have HW11 := hid (HW10.out.trans (hb.mono HW10.out.size)); have A11 := hid (A10.out.below hb); have BA11 := hid (BA10.out.below hb); have L11 := hid (H10.out.below hb)
  clear hb HW10 A10 BA10 H10
  have l1 := L11.out.rn.ln; have l2 := L11.out.rn.ld; have l3 := H11.out.rn.ln; have l4 := H11.out.rn.ld
  go_wp2_with fail
  refine (eMax_g L11.out.rn.rw H11.out.rn.rw (by omega) (by omega) (by omega) (by omega) L11.out.ef H11.out.ef (fun _ => L11.out.mono (by omega)) (fun _ => H11.out.mono (by omega))).mono ?_
  rintro e w12 ⟨ui, us, ux, un, uc, uf, uy, um, ud, ug, uer, rfl, hb, H12⟩
  obtain ⟨rfl, rfl, hB⟩ : ui = 0 ∧ uer = 0 ∧ En 2000 w12 0 us ux un uc uf uy um ud ug ((4 : Int) : Rat) := by
    rcases H12.out with ⟨h1, _⟩ | ⟨_, h1, q, h2, h3⟩
    · cases h1
    · obtain ⟨e1, e2⟩ := max_34 h2
      subst e1 e2
      exact ⟨rfl, h1, h3⟩
  have HW12 := hid (below_alloc (HW11.out.trans (hb.mono HW11.out.size)) (.cells #[.int .i64 0, .bool us, .slice ux un uc, .slice uy um ud] 26)); have A12 := hid ((A11.out.below hb).alloc (.cells #[.int .i64 0, .bool us, .slice ux un uc, .slice uy um ud] 26)); have BA12 := hid ((BA11.out.below hb).alloc (.cells #[.int .i64 0, .bool us, .slice ux un uc, .slice uy um ud] 26)); have B12 := hid (hB.alloc (.cells #[.int .i64 0, .bool us, .slice ux un uc, .slice uy um ud] 26)); have BB12 := hid (bx4_at w12 (.int .i64 0) (.bool us) (.slice ux un uc) (.slice uy um ud) 26)
  clear hb hB H12 HW11 A11 BA11 L11 H11 l1 l2 l3 l4
  go_upto_region 5 with fail
  generalize w12.alloc (.cells #[.int .i64 0, .bool us, .slice ux un uc, .slice uy um ud] 26) = w13 at *
  generalize w12.heap.size = bB at *
  obtain ⟨za, a0, a1, a2, a3⟩ := BA12.out
  obtain ⟨zb, b0, b1, b2, b3⟩ := BB12.out
  have CH1 : Hid (∀ W : World, Calls Tryz.prog 41 #[] W fun e w' => ∃ s x n c f y m d g, e = .returned (.agg #[.int .i64 1, .bool s, .slice x n c, .slice y m d]) ∧ Below W.heap.size W w' ∧ Hid (En 4 w' 1 s x n c f y m d g 0)) := fun W => eHigh_c
  have CL1 : Hid (∀ W : World, Calls Tryz.prog 38 #[] W fun e w' => ∃ s x n c f y m d g, e = .returned (.agg #[.int .i64 (-1), .bool s, .slice x n c, .slice y m d]) ∧ Below W.heap.size W w' ∧ Hid (En 4 w' (-1) s x n c f y m d g 0)) := fun W => eLow_c
  have CN1 : Hid (∀ W : World, Calls Tryz.prog 40 #[.int .i64 4] W fun e w' => ∃ s x n c f y m d g, e = .returned (.agg #[.int .i64 0, .bool s, .slice x n c, .slice y m d]) ∧ Below W.heap.size W w' ∧ Hid (En 4 w' 0 s x n c f y m d g ((4 : Int) : Rat))) := fun W => num4_c (by decide) (by decide)
  have CRL : Hid (∀ W : World, Calls Tryz.prog 43 #[] W fun e w' => ∃ s x n c d y m c' g, e = .returned (.agg #[.int .i64 (-1), .bool s, .slice x n c, .slice y m c']) ∧ Below W.heap.size W w' ∧ Hid (n ≤ 2 ∧ m ≤ 2 ∧ Fn w' (-1) s x n d y m g 0)) := fun W => xLow_c
  have CRH : Hid (∀ W : World, Calls Tryz.prog 44 #[] W fun e w' => ∃ s x n c d y m c' g, e = .returned (.agg #[.int .i64 1, .bool s, .slice x n c, .slice y m c']) ∧ Below W.heap.size W w' ∧ Hid (n ≤ 2 ∧ m ≤ 2 ∧ Fn w' 1 s x n d y m g 0)) := fun W => xHigh_c
  have CTO : Hid (∀ (W : World) (i : Int) (s : Bool) (x : Option Addr) (n c : Nat) (d : Nat → Int) (y : Option Addr) (m e : Nat) (g : Nat → Int), n ≤ 2 → m ≤ 2 → Fn W i s x n d y m g 0 → Calls Tryz.prog 42 #[.agg #[.int .i64 i, .bool s, .slice x n c, .slice y m e]] W fun en w' => ∃ z k c' f z2 k2 c2 f2, en = .returned (.agg #[.int .i64 i, .bool s, .slice z k c', .slice z2 k2 c2]) ∧ Below W.heap.size W w' ∧ Hid (En 4 w' i s z k c' f z2 k2 c2 f2 0)) := fun W i s x n c d y m e g l1 l2 k1 => (xTo_c k1 (by omega) (by omega)).mono (fun _ _ ⟨z, k, c', f, z2, k2, c2, f2, j1, j2, j3⟩ => ⟨z, k, c', f, z2, k2, c2, f2, j1, j2, j3.out.mono (by omega)⟩)
  have CS : Hid (∀ (W : World) (i : Int) (s : Bool) (x : Option Addr) (n c : Nat) (f : Nat → Int) (y : Option Addr) (m d : Nat) (g : Nat → Int) (s' : Bool) (x' : Option Addr) (n' c' : Nat) (f' : Nat → Int) (y' : Option Addr) (m' d' : Nat) (g' : Nat → Int) (q : Rat), En 2000 W i s x n c f y m d g q → En 2000 W i s' x' n' c' f' y' m' d' g' q → Calls Tryz.prog 35 #[.agg #[.int .i64 i, .bool s, .slice x n c, .slice y m d], .agg #[.int .i64 i, .bool s', .slice x' n' c', .slice y' m' d']] W fun e w' => e = .returned (.bool true) ∧ Below W.heap.size W w') := fun W i s x n c f y m d g s' x' n' c' f' y' m' d' g' q k1 k2 => xSame_of (fun W' hW => (rSame_n (k1.below hW).rn (k2.below hW).rn (by omega) (by omega)).mono (fun e w' ⟨j1, j2⟩ => ⟨by rw [j1]; simp, j2⟩))
  have CF : Hid (∀ W : World, Calls Tryz.prog 13 #[.agg #[.int .i64 1, .bool false, .slice none 0 0, .slice none 0 0]] W fun e w' => e = .returned (.bool false) ∧ Below W.heap.size W w') := fun W => by
    have h := eForm_c (i := 1) (s := false) (⟨Rd.zero, (fun j hj => by omega), by omega, (fun _ => by omega), Rd.zero, (fun j hj => by omega), by omega, (fun _ => by omega)⟩ : Rw W none 0 0 (fun _ => 0) none 0 0 (fun _ => 0)) (by omega) (by omega)
    rw [ef_bad] at h
    exact h
  go_wp2
  go_region_held3 (fun w' => w'.cell? ⟨bA, 0, none⟩ = some (.int .i64 1) ∧ w'.cell? ⟨bA, 1, none⟩ = some (.bool ps) ∧ w'.cell? ⟨bA, 2, none⟩ = some (.slice px pn pc) ∧ w'.cell? ⟨bA, 3, none⟩ = some (.slice py pm pd) ∧ w'.cell? ⟨bB, 0, none⟩ = some (.int .i64 0) ∧ w'.cell? ⟨bB, 1, none⟩ = some (.bool us) ∧ w'.cell? ⟨bB, 2, none⟩ = some (.slice ux un uc) ∧ w'.cell? ⟨bB, 3, none⟩ = some (.slice uy um ud))
    (refine ⟨?_, ?_, ?_, ?_, ?_, ?_, ?_, ?_⟩ <;> repeat (with_reducible first | assumption | refine kCd ?_ | refine kCa ?_ | refine kCb (by assumption) ?_))
    (first
      | (go_at_call 41; with_reducible refine (CH1.out _).mono ?_; rintro e v1 ⟨hs, hx, hn, hc, hf, hy, hm, hd, hg, rfl, hv1, HH⟩)
      | (go_at_call 35; with_reducible refine (CS.out _ 1 ps px pn pc pf py pm pd pg hs hx hn hc hf hy hm hd hg 0 (by repeat (with_reducible first | exact A12.out.mono (by omega) | exact A12.out | refine kEnd ?_ | refine kEnb (by assumption) ?_)) (by repeat (with_reducible first | exact HH.out.mono (by omega) | exact HH.out | refine kEnd ?_ | refine kEnb (by assumption) ?_))).mono ?_; rintro e v2 ⟨rfl, hv2⟩)
      | (go_at_call 40; with_reducible refine (CN1.out _).mono ?_; rintro e v3 ⟨ks, kx, kn, kc, kf, ky, km, kd, kg, rfl, hv3, HK⟩)
      | (go_at_call 35; with_reducible refine (CS.out _ 0 us ux un uc uf uy um ud ug ks kx kn kc kf ky km kd kg ((4 : Int) : Rat) (by repeat (with_reducible first | exact B12.out.mono (by omega) | exact B12.out | refine kEnd ?_ | refine kEnb (by assumption) ?_)) (by repeat (with_reducible first | exact HK.out.mono (by omega) | exact HK.out | refine kEnd ?_ | refine kEnb (by assumption) ?_))).mono ?_; rintro e v4 ⟨rfl, hv4⟩)
      | (go_at_call 38; with_reducible refine (CL1.out _).mono ?_; rintro e v5 ⟨ls, lx, ln, lc, lf, ly, lm, ld, lg, rfl, hv5, HL⟩)
      | (go_at_call 43; with_reducible refine (CRL.out _).mono ?_; rintro e v6 ⟨rs, rx, rn, rc, rf, ry, rm, rd, rg, rfl, hv6, HRL⟩)
      | (go_at_call 42; with_reducible refine (CTO.out _ (-1) rs rx rn rc rf ry rm rd rg HRL.out.1 HRL.out.2.1 (by repeat (with_reducible first | exact HRL.out.2.2 | refine kFnd ?_ | refine kFnb (by assumption) ?_))).mono ?_; rintro e v7 ⟨tx, tn, tc, tf, ty, tm, td, tg, rfl, hv7, HT⟩)
      | (go_at_call 35; with_reducible refine (CS.out _ (-1) ls lx ln lc lf ly lm ld lg rs tx tn tc tf ty tm td tg 0 (by repeat (with_reducible first | exact HL.out.mono (by omega) | exact HL.out | refine kEnd ?_ | refine kEnb (by assumption) ?_)) (by repeat (with_reducible first | exact HT.out.mono (by omega) | exact HT.out | refine kEnd ?_ | refine kEnb (by assumption) ?_))).mono ?_; rintro e v8 ⟨rfl, hv8⟩)
      | (go_at_call 44; with_reducible refine (CRH.out _).mono ?_; rintro e v9 ⟨js, jx, jn, jc, jf, jy, jm, jd, jg, rfl, hv9, HRH⟩)
      | (go_at_call 42; with_reducible refine (CTO.out _ 1 js jx jn jc jf jy jm jd jg HRH.out.1 HRH.out.2.1 (by repeat (with_reducible first | exact HRH.out.2.2 | refine kFnd ?_ | refine kFnb (by assumption) ?_))).mono ?_; rintro e v10 ⟨ox, on, oc, of', oy, om, od, og, rfl, hv10, HO⟩)
      | (go_at_call 35; with_reducible refine (CS.out _ 1 hs hx hn hc hf hy hm hd hg js ox on oc of' oy om od og 0 (by repeat (with_reducible first | exact HH.out.mono (by omega) | exact HH.out | refine kEnd ?_ | refine kEnb (by assumption) ?_)) (by repeat (with_reducible first | exact HO.out.mono (by omega) | exact HO.out | refine kEnd ?_ | refine kEnb (by assumption) ?_))).mono ?_; rintro e v11 ⟨rfl, hv11⟩)
      | (go_at_call 13; with_reducible refine (CF.out _).mono ?_; rintro e v12 ⟨rfl, hv12⟩))
  all_goals
    go_wp2
    go_ret
    exact ⟨rfl, HW12.out.trans (Below.mono (by repeat (with_reducible first | assumption | exact Below.refl _ _ | refine Below.drew ?_ | refine kBa ?_ | refine kBb (by assumption) ?_)) HW12.out.size)⟩
end Go.Proofs.YtbindadjepfkcaaGreatDoor
namespace Go.Proofs.YtbindadjepfkcaaGreatDoor
open Go.RowKit

/-- A box that holds a bound and may be written. -/
structure Wb (w : World) (B : Nat) (i : Int) (s : Bool) (x : Option Addr) (n c : Nat) (y : Option Addr) (m d : Nat) : Prop where
  bx : Bx4 w B (.int .i64 i) (.bool s) (.slice x n c) (.slice y m d)
  fr : ∀ o, w.frozen? ⟨B, o, none⟩ = false
theorem Wb.below {w w' B i s x n c y m d} (h : Wb w B i s x n c y m d) (hb : Below w.heap.size w w') : Wb w' B i s x n c y m d :=
  ⟨h.bx.below hb, fun o => ((bcell hb).2 _ _ h.bx.z).trans (h.fr o)⟩
theorem kWbb {w w' B i s x n c y m d} (hb : Below w.heap.size w w') (h : Wb w B i s x n c y m d) : Wb w' B i s x n c y m d := h.below hb
theorem kWbd {w B i s x n c y m d} (h : Wb w B i s x n c y m d) : Wb w.drew B i s x n c y m d := ⟨⟨h.bx.z, h.bx.x0, h.bx.x1, h.bx.x2, h.bx.x3⟩, h.fr⟩
theorem Wb.alloc {w B i s x n c y m d} (h : Wb w B i s x n c y m d) (o : Obj) : Wb (w.alloc o) B i s x n c y m d := h.below (below_alloc (Below.refl _ _) o)
theorem wb_at (w : World) (i : Int) (s : Bool) (x : Option Addr) (n c : Nat) (y : Option Addr) (m d : Nat) (t : TypeId) : Wb (w.alloc (.cells #[.int .i64 i, .bool s, .slice x n c, .slice y m d] t)) w.heap.size i s x n c y m d := by
  refine ⟨bx4_at _ _ _ _ _ _, fun o => ?_⟩
  have e := heap_alloc_new w (.cells #[.int .i64 i, .bool s, .slice x n c, .slice y m d] t)
  simp only [World.frozen?, e]; simp
theorem size_st4 (w : World) (B : Nat) (u0 u1 u2 u3 : Value) : ((((w.setCell ⟨B, 0, none⟩ u0).setCell ⟨B, 1, none⟩ u1).setCell ⟨B, 2, none⟩ u2).setCell ⟨B, 3, none⟩ u3).heap.size = w.heap.size := by simp [World.setCell]
theorem put4 {w : World} {B : Nat} {u0 u1 u2 u3 : Value} (hz : B < w.heap.size) (z0 : (w.cell? ⟨B, 0, none⟩).isSome = true) (z1 : (w.cell? ⟨B, 1, none⟩).isSome = true) (z2 : (w.cell? ⟨B, 2, none⟩).isSome = true) (z3 : (w.cell? ⟨B, 3, none⟩).isSome = true) :
    Bx4 ((((w.setCell ⟨B, 0, none⟩ u0).setCell ⟨B, 1, none⟩ u1).setCell ⟨B, 2, none⟩ u2).setCell ⟨B, 3, none⟩ u3) B u0 u1 u2 u3 :=
  ⟨by rw [size_st4]; exact hz, kCo (by decide) (kCo (by decide) (kCo (by decide) (kCe z0))), kCo (by decide) (kCo (by decide) (kCe (kIs z1))), kCo (by decide) (kCe (kIs (kIs z2))), kCe (kIs (kIs (kIs z3)))⟩
theorem Ob4.put {w B} (h : Ob4 w B) (i : Int) (s : Bool) (x : Option Addr) (n c : Nat) (y : Option Addr) (m d : Nat) : Wb ((((w.setCell ⟨B, 0, none⟩ (.int .i64 i)).setCell ⟨B, 1, none⟩ (.bool s)).setCell ⟨B, 2, none⟩ (.slice x n c)).setCell ⟨B, 3, none⟩ (.slice y m d)) B i s x n c y m d :=
  ⟨put4 h.z (kI0 h.z0) (kI0 h.z1) (kI0 h.z2) (kI0 h.z3), fun o => kFs (kFs (kFs (kFs (h.zf o))))⟩
theorem Wb.put {w B i' s' x' n' c' y' m' d'} (h : Wb w B i' s' x' n' c' y' m' d') (i : Int) (s : Bool) (x : Option Addr) (n c : Nat) (y : Option Addr) (m d : Nat) : Wb ((((w.setCell ⟨B, 0, none⟩ (.int .i64 i)).setCell ⟨B, 1, none⟩ (.bool s)).setCell ⟨B, 2, none⟩ (.slice x n c)).setCell ⟨B, 3, none⟩ (.slice y m d)) B i s x n c y m d :=
  ⟨put4 h.bx.z (kI0 h.bx.x0) (kI0 h.bx.x1) (kI0 h.bx.x2) (kI0 h.bx.x3), fun o => kFs (kFs (kFs (kFs (h.fr o))))⟩
theorem Wb.far4 {w B i s x n c y m d B' u0 u1 u2 u3} (h : Wb w B i s x n c y m d) (hne : B' ≠ B) : Wb ((((w.setCell ⟨B', 0, none⟩ u0).setCell ⟨B', 1, none⟩ u1).setCell ⟨B', 2, none⟩ u2).setCell ⟨B', 3, none⟩ u3) B i s x n c y m d :=
  ⟨⟨by rw [size_st4]; exact h.bx.z, kCs hne (kCs hne (kCs hne (kCs hne h.bx.x0))), kCs hne (kCs hne (kCs hne (kCs hne h.bx.x1))), kCs hne (kCs hne (kCs hne (kCs hne h.bx.x2))), kCs hne (kCs hne (kCs hne (kCs hne h.bx.x3)))⟩, fun o => kFs (kFs (kFs (kFs (h.fr o))))⟩
theorem Wb.rd {w B i s x n c y m d u0 u1 u2 u3 xx nn ff} (h : Wb w B i s x n c y m d) (hx : Rd .u64 w xx nn ff) : Rd .u64 ((((w.setCell ⟨B, 0, none⟩ u0).setCell ⟨B, 1, none⟩ u1).setCell ⟨B, 2, none⟩ u2).setCell ⟨B, 3, none⟩ u3) xx nn ff :=
  rd_setne (cell_off (by decide) (cell_off (by decide) (cell_off (by decide) h.bx.x3))) (fun i h => by cases h) (rd_setne (cell_off (by decide) (cell_off (by decide) h.bx.x2)) (fun i h => by cases h) (rd_setne (cell_off (by decide) h.bx.x1) (fun i h => by cases h) (rd_setne h.bx.x0 (fun i h => by cases h) hx)))
theorem Wb.oe {w B i s x n c y m d u0 u1 u2 u3 p P i' s' x' n' c' f' y' m' d' g' er} (h : Wb w B i s x n c y m d) (hx : OE p P w i' s' x' n' c' f' y' m' d' g' er) : OE p P ((((w.setCell ⟨B, 0, none⟩ u0).setCell ⟨B, 1, none⟩ u1).setCell ⟨B, 2, none⟩ u2).setCell ⟨B, 3, none⟩ u3) i' s' x' n' c' f' y' m' d' g' er := by
  rcases hx with h1 | ⟨h1, h2, q, h3, h4⟩
  · exact .inl h1
  · exact .inr ⟨h1, h2, q, h3, ⟨⟨⟨h.rd h4.rn.num.rd, h4.rn.num.lm, h4.rn.num.wf, h4.rn.num.cap, h4.rn.num.nil, h4.rn.num.val⟩, ⟨h.rd h4.rn.den.rd, h4.rn.den.lm, h4.rn.den.wf, h4.rn.den.cap, h4.rn.den.nil, h4.rn.den.val⟩, h4.rn.ln, h4.rn.ld⟩, h4.inf⟩⟩
theorem Ob4.oe {w B u0 u1 u2 u3 p P i' s' x' n' c' f' y' m' d' g' er} (h : Ob4 w B) (hx : OE p P w i' s' x' n' c' f' y' m' d' g' er) : OE p P ((((w.setCell ⟨B, 0, none⟩ u0).setCell ⟨B, 1, none⟩ u1).setCell ⟨B, 2, none⟩ u2).setCell ⟨B, 3, none⟩ u3) i' s' x' n' c' f' y' m' d' g' er := by
  rcases hx with h1 | ⟨h1, h2, q, h3, h4⟩
  · exact .inl h1
  · exact .inr ⟨h1, h2, q, h3, ⟨h.rn h4.rn, h4.inf⟩⟩
/-- A bound that was answered, in a box of its own. -/
structure ZAt (p : Bool) (P : Int → Rat → Prop) (w1 wx : World) (b8 : Nat) (i : Int) (s : Bool) (x : Option Addr) (n c : Nat) (f : Nat → Int) (y : Option Addr) (m d : Nat) (g : Nat → Int) (er : Int) : Prop where
  wb : Wb wx b8 i s x n c y m d
  bel : Below w1.heap.size w1 wx
  oe : OE p P wx i s x n c f y m d g er
  le : w1.heap.size ≤ b8
theorem zat_a {p P w1 v i s x n c f y m d g er} {t : TypeId} (hb : Below w1.heap.size w1 v) (h : OE p P v i s x n c f y m d g er) : ZAt p P w1 (v.alloc (.cells #[.int .i64 i, .bool s, .slice x n c, .slice y m d] t)) v.heap.size i s x n c f y m d g er := ⟨wb_at _ _ _ _ _ _ _ _ _ _, below_alloc hb _, h.alloc _, hb.size⟩
theorem zat_s {p P w1 v i s x n c f y m d g er} {b8 : Nat} (hb : Below w1.heap.size w1 v) (h : OE p P v i s x n c f y m d g er) (h8 : Ob4 v b8) (o8 : w1.heap.size ≤ b8) : ZAt p P w1 ((((v.setCell ⟨b8, 0, none⟩ (.int .i64 i)).setCell ⟨b8, 1, none⟩ (.bool s)).setCell ⟨b8, 2, none⟩ (.slice x n c)).setCell ⟨b8, 3, none⟩ (.slice y m d)) b8 i s x n c f y m d g er := ⟨h8.put _ _ _ _ _ _ _ _, below_st4 hb o8, h8.oe h, o8⟩
theorem zat_w {p P w1 v i s x n c f y m d g er i' s' x' n' c' y' m' d'} {b8 : Nat} (hb : Below w1.heap.size w1 v) (h : OE p P v i s x n c f y m d g er) (h8 : Wb v b8 i' s' x' n' c' y' m' d') (o8 : w1.heap.size ≤ b8) : ZAt p P w1 ((((v.setCell ⟨b8, 0, none⟩ (.int .i64 i)).setCell ⟨b8, 1, none⟩ (.bool s)).setCell ⟨b8, 2, none⟩ (.slice x n c)).setCell ⟨b8, 3, none⟩ (.slice y m d)) b8 i s x n c f y m d g er := ⟨h8.put _ _ _ _ _ _ _ _, below_st4 hb o8, h8.oe h, o8⟩
theorem two4_new {w w1 : World} {a0 a1 a2 a3 b0 b1 b2 b3 : Value} {t : TypeId} (hb : Below ((w.alloc (.cells #[a0, a1, a2, a3] t)).alloc (.cells #[b0, b1, b2, b3] t)).heap.size ((w.alloc (.cells #[a0, a1, a2, a3] t)).alloc (.cells #[b0, b1, b2, b3] t)) w1) :
    Bx4 w1 w.heap.size a0 a1 a2 a3 ∧ Bx4 w1 (w.heap.size + 1) b0 b1 b2 b3 ∧ Below w.heap.size w w1 := by
  have h1 := ((bx4_at w a0 a1 a2 a3 t).alloc (.cells #[b0, b1, b2, b3] t)).below hb
  have h2 := (bx4_at (w.alloc (.cells #[a0, a1, a2, a3] t)) b0 b1 b2 b3 t).below hb
  rw [size_alloc1] at h2
  exact ⟨h1, h2, (below_alloc (below_alloc (Below.refl w.heap.size w) _) _).trans (hb.mono (below_alloc (below_alloc (Below.refl w.heap.size w) _) _).size)⟩

set_option maxRecDepth 100000 in
set_option maxHeartbeats 16000000 in
theorem extOrders_c (ia : Int) (sa : Bool) (xa : Option Addr) (na ca : Nat) (fa : Nat → Int) (ya : Option Addr) (ma da : Nat) (ga : Nat → Int) (ib : Int) (sb : Bool) (xb : Option Addr) (nb cb : Nat) (fb : Nat → Int) (yb : Option Addr) (mb db : Nat) (gb : Nat → Int) (w : World) (ha : Rw w xa na ca fa ya ma da ga) (hb : Rw w xb nb cb fb yb mb db gb) (_htab : Tab w) :
    Calls Tryz.prog 3 #[.agg #[.int .i64 ia, .bool sa, .slice xa na ca, .slice ya ma da], .agg #[.int .i64 ib, .bool sb, .slice xb nb cb, .slice yb mb db]] w fun e w' => e = .returned (.bool true) ∧ Below w.heap.size w w' := by
  have HA := hid ha; have HB := hid hb
  have q1 := ha.cx; have q2 := ha.cy; have q3 := hb.cx; have q4 := hb.cy
  clear ha hb
  go_enter Tryz.func3, Tryz.ntmps3
  go_wp2_with fail
  refine (eAwake_c _).mono ?_
  rintro e w1 ⟨rfl, hbel⟩
  obtain ⟨ba, bb, hw⟩ := two4_new hbel
  have BA1 := hid ba; have BB1 := hid bb; have HW1 := hid hw
  clear hbel ba bb hw
  obtain ⟨za, a0, a1, a2, a3⟩ := BA1.out
  obtain ⟨zb, b0, b1, b2, b3⟩ := BB1.out
  go_wp2_with fail
  refine (elight_c (by omega) (by omega) (by omega) (by omega)).mono ?_
  rintro e w2 ⟨rfl, hb⟩
  clear za a0 a1 a2 a3 zb b0 b1 b2 b3
  have BA2 := hid (BA1.out.below hb); have BB2 := hid (BB1.out.below hb); have HW2 := hid (HW1.out.trans (hb.mono HW1.out.size))
  clear BA1 BB1 HW1 hb
  cases hl : (lg na ma 20 && lg nb mb 20)
  · go_wp2
    go_ret
    exact ⟨rfl, HW2.out⟩
  have hl1 : na ≤ 20 ∧ ma ≤ 20 ∧ nb ≤ 20 ∧ mb ≤ 20 := by
    simp only [lg, Bool.and_eq_true, decide_eq_true_eq] at hl
    exact ⟨hl.1.1, hl.1.2, hl.2.1, hl.2.2⟩
  obtain ⟨l1, l2, l3, l4⟩ := hl1
  clear hl
  obtain ⟨pa, hpa⟩ : ∃ p, efB ia sa fa na ga ma = p := ⟨_, rfl⟩
  obtain ⟨pb, hpb⟩ : ∃ p, efB ib sb fb nb gb mb = p := ⟨_, rfl⟩
  obtain ⟨qa, hqa⟩ : ∃ q, pa = true → En 100 w2 ia sa xa na ca fa ya ma da ga q := by
    cases pa
    · exact ⟨0, fun h => by cases h⟩
    · obtain ⟨q, hq⟩ := (HA.out.below HW2.out).en hpa (L := 100) (by omega) (by omega)
      exact ⟨q, fun _ => hq⟩
  obtain ⟨qb, hqb⟩ : ∃ q, pb = true → En 100 w2 ib sb xb nb cb fb yb mb db gb q := by
    cases pb
    · exact ⟨0, fun h => by cases h⟩
    · obtain ⟨q, hq⟩ := (HB.out.below HW2.out).en hpb (L := 100) (by omega) (by omega)
      exact ⟨q, fun _ => hq⟩
  have HPA := hid hpa; have HPB := hid hpb; have HQA := hid hqa; have HQB := hid hqb
  clear hpa hpb hqa hqb
  have RA2 := hid (HA.out.below HW2.out); have RB2 := hid (HB.out.below HW2.out)
  have hz2 : w.heap.size + 1 < w2.heap.size := BB2.out.z
  have TA : Hid (∀ W, Below w2.heap.size w2 W → Calls Tryz.prog 11 #[.agg #[.int .i64 ia, .bool sa, .slice xa na ca, .slice ya ma da]] W fun e w' => ∃ z c' z2 c2, e = .returned (.agg #[.int .i64 ia, .bool sa, .slice z na c', .slice z2 ma c2]) ∧ Below W.heap.size W w' ∧ Hid (Rw w' z na c' fa z2 ma c2 ga)) := fun W hW => xTwin_c (RA2.out.below hW) (by omega) (by omega)
  have TB : Hid (∀ W, Below w2.heap.size w2 W → Calls Tryz.prog 11 #[.agg #[.int .i64 ib, .bool sb, .slice xb nb cb, .slice yb mb db]] W fun e w' => ∃ z c' z2 c2, e = .returned (.agg #[.int .i64 ib, .bool sb, .slice z nb c', .slice z2 mb c2]) ∧ Below W.heap.size W w' ∧ Hid (Rw w' z nb c' fb z2 mb c2 gb)) := fun W hW => xTwin_c (RB2.out.below hW) (by omega) (by omega)
  have CC : Hid (∀ (W : World) (x : Option Addr) (c : Nat) (y : Option Addr) (d : Nat) (x' : Option Addr) (c' : Nat) (y' : Option Addr) (d' : Nat), Rw W x na c fa y ma d ga → Rw W x' nb c' fb y' mb d' gb → Calls Tryz.prog 10 #[.agg #[.int .i64 ia, .bool sa, .slice x na c, .slice y ma d], .agg #[.int .i64 ib, .bool sb, .slice x' nb c', .slice y' mb d']] W fun e w' => ∃ r er, e = .returned (.tuple #[.int .i64 r, .int .i64 er]) ∧ Below W.heap.size W w' ∧ Hid (OC (pa && pb) ia qa ib qb r er)) := fun W x c y d x' c' y' d' h1 h2 => eCmp_g h1 h2 (by omega) (by omega) (by omega) (by omega) HPA.out HPB.out (fun h => (HQA.out h).moved h1) (fun h => (HQB.out h).moved h2)
  have CMax : Hid (∀ (W : World) (x : Option Addr) (c : Nat) (y : Option Addr) (d : Nat) (x' : Option Addr) (c' : Nat) (y' : Option Addr) (d' : Nat), Rw W x na c fa y ma d ga → Rw W x' nb c' fb y' mb d' gb → Calls Tryz.prog 15 #[.agg #[.int .i64 ia, .bool sa, .slice x na c, .slice y ma d], .agg #[.int .i64 ib, .bool sb, .slice x' nb c', .slice y' mb d']] W fun e w' => ∃ i s x n c f y m d g er, e = .returned (.tuple #[.agg #[.int .i64 i, .bool s, .slice x n c, .slice y m d], .int .i64 er]) ∧ Below W.heap.size W w' ∧ Hid (OE (pa && pb) (EMax ia qa ib qb) w' i s x n c f y m d g er)) := fun W x c y d x' c' y' d' h1 h2 => eMax_g h1 h2 (by omega) (by omega) (by omega) (by omega) HPA.out HPB.out (fun h => (HQA.out h).moved h1) (fun h => (HQB.out h).moved h2)
  have CMin : Hid (∀ (W : World) (x : Option Addr) (c : Nat) (y : Option Addr) (d : Nat) (x' : Option Addr) (c' : Nat) (y' : Option Addr) (d' : Nat), Rw W x na c fa y ma d ga → Rw W x' nb c' fb y' mb d' gb → Calls Tryz.prog 18 #[.agg #[.int .i64 ia, .bool sa, .slice x na c, .slice y ma d], .agg #[.int .i64 ib, .bool sb, .slice x' nb c', .slice y' mb d']] W fun e w' => ∃ i s x n c f y m d g er, e = .returned (.tuple #[.agg #[.int .i64 i, .bool s, .slice x n c, .slice y m d], .int .i64 er]) ∧ Below W.heap.size W w' ∧ Hid (OE (pa && pb) (EMin ia qa ib qb) w' i s x n c f y m d g er)) := fun W x c y d x' c' y' d' h1 h2 => eMin_g h1 h2 (by omega) (by omega) (by omega) (by omega) HPA.out HPB.out (fun h => (HQA.out h).moved h1) (fun h => (HQB.out h).moved h2)
  go_upto_region 5 with fail
  go_cut [5, 6] from 17 to 24 (fun u t wx => ∃ (wy : World) (r er : Int), wy = wx ∧ u = .int .i64 r ∧ t = .int .i64 er ∧ Below w2.heap.size w2 wy ∧ Hid (OC (pa && pb) ia qa ib qb r er))
  case first =>
    obtain ⟨za, a0, a1, a2, a3⟩ := BA2.out
    obtain ⟨zb, b0, b1, b2, b3⟩ := BB2.out
    go_region_held3 (fun w' => w'.cell? ⟨w.heap.size, 0, none⟩ = some (.int .i64 ia) ∧ w'.cell? ⟨w.heap.size, 1, none⟩ = some (.bool sa) ∧ w'.cell? ⟨w.heap.size, 2, none⟩ = some (.slice xa na ca) ∧ w'.cell? ⟨w.heap.size, 3, none⟩ = some (.slice ya ma da) ∧ w'.cell? ⟨w.heap.size + 1, 0, none⟩ = some (.int .i64 ib) ∧ w'.cell? ⟨w.heap.size + 1, 1, none⟩ = some (.bool sb) ∧ w'.cell? ⟨w.heap.size + 1, 2, none⟩ = some (.slice xb nb cb) ∧ w'.cell? ⟨w.heap.size + 1, 3, none⟩ = some (.slice yb mb db))
      (refine ⟨?_, ?_, ?_, ?_, ?_, ?_, ?_, ?_⟩ <;> repeat (with_reducible first | assumption | refine kCd ?_ | refine kCb (by assumption) ?_))
      (first
        | (go_at_call 11; with_reducible refine (TA.out _ (by repeat (with_reducible first | assumption | exact Below.refl _ _ | refine Below.drew ?_ | refine kBa ?_ | refine kBb (by assumption) ?_))).mono ?_; rintro e v5 ⟨x5, c5, y5, d5, rfl, hb5, H5⟩)
        | (go_at_call 11; with_reducible refine (TB.out _ (by repeat (with_reducible first | assumption | exact Below.refl _ _ | refine Below.drew ?_ | refine kBa ?_ | refine kBb (by assumption) ?_))).mono ?_; rintro e v6 ⟨x6, c6, y6, d6, rfl, hb6, H6⟩)
        | (go_at_call 10; with_reducible refine (CC.out _ x5 c5 y5 d5 x6 c6 y6 d6 (by repeat (with_reducible first | exact H5.out | refine kRwd ?_ | refine kRwa ?_ | refine kRwb (by assumption) ?_)) (by repeat (with_reducible first | exact H6.out | refine kRwd ?_ | refine kRwa ?_ | refine kRwb (by assumption) ?_))).mono ?_; rintro e v7 ⟨r7, er7, rfl, hb7, H7⟩))
    all_goals
      go_wp2_with fail
      go_meet
      exact ⟨_, r7, er7, rfl, rfl, rfl, (by repeat (with_reducible first | assumption | exact Below.refl _ _ | refine Below.drew ?_ | refine kBa ?_ | refine kBb (by assumption) ?_)), H7⟩
  case rest =>
    obtain ⟨w3, r3, er3, rfl, rfl, rfl, hb, H3⟩ := hcut
    have HB3 := hid hb
    clear hb
    obtain ⟨za, a0, a1, a2, a3⟩ := BA2.out.below HB3.out
    obtain ⟨zb, b0, b1, b2, b3⟩ := BB2.out.below HB3.out
    go_wp2_with fail
    refine (docCmpX_g (RA2.out.below HB3.out) (RB2.out.below HB3.out) (by omega) (by omega) (by omega) (by omega) HPA.out HPB.out (fun h => (HQA.out h).below HB3.out) (fun h => (HQB.out h).below HB3.out)).mono ?_
    rintro e w4 ⟨r4, er4, rfl, hb, H4⟩
    obtain ⟨e1, e2⟩ := H3.out.uniq H4.out
    subst e1
    subst e2
    have hcn : (r4 != r4) = false := by simp
    have hen : (er4 != er4) = false := by simp
    have HB4 := hid (HB3.out.trans (hb.mono HB3.out.size))
    clear hb za a0 a1 a2 a3 zb b0 b1 b2 b3 H3 H4 CC
    have C1 : Hid (∀ W, Below w2.heap.size w2 W → Calls Tryz.prog 13 #[.agg #[.int .i64 ia, .bool sa, .slice xa na ca, .slice ya ma da]] W fun e w' => e = .returned (.bool pa) ∧ Below W.heap.size W w') := fun W hW => by
      have := eForm_c (i := ia) (s := sa) (RA2.out.below hW) (by omega) (by omega)
      rw [HPA.out] at this; exact this
    have C2 : Hid (∀ W, Below w2.heap.size w2 W → Calls Tryz.prog 14 #[.agg #[.int .i64 ia, .bool sa, .slice xa na ca, .slice ya ma da]] W fun e w' => e = .returned (.bool pa) ∧ Below W.heap.size W w') := fun W hW => by
      have := xForm_c (i := ia) (s := sa) (RA2.out.below hW) (by omega) (by omega)
      rw [HPA.out] at this; exact this
    have hpp : (pa != pa) = false := by simp
    go_upto_region 7 with fail
    go_cut [45] from 31 to 44 (fun u wx => ∃ (wy : World), wy = wx ∧ u = .bool false ∧ Below w2.heap.size w2 wy)
    case first =>
      have hb4 := HB4.out
      obtain ⟨za, a0, a1, a2, a3⟩ := BA2.out.below HB4.out
      go_region_held3 (fun w' => w'.cell? ⟨w.heap.size, 0, none⟩ = some (.int .i64 ia) ∧ w'.cell? ⟨w.heap.size, 1, none⟩ = some (.bool sa) ∧ w'.cell? ⟨w.heap.size, 2, none⟩ = some (.slice xa na ca) ∧ w'.cell? ⟨w.heap.size, 3, none⟩ = some (.slice ya ma da))
        (refine ⟨?_, ?_, ?_, ?_⟩ <;> repeat (with_reducible first | assumption | refine kCd ?_ | refine kCb (by assumption) ?_))
        (first
          | (go_at_call 13; with_reducible refine (C1.out _ (by repeat (with_reducible first | assumption | exact Below.refl _ _ | refine Below.drew ?_ | refine kBa ?_ | refine kBb (by assumption) ?_))).mono ?_; rintro e v5 ⟨rfl, hb5⟩)
          | (go_at_call 14; with_reducible refine (C2.out _ (by repeat (with_reducible first | assumption | exact Below.refl _ _ | refine Below.drew ?_ | refine kBa ?_ | refine kBb (by assumption) ?_))).mono ?_; rintro e v6 ⟨rfl, hb6⟩))
      all_goals
        go_wp2_with fail
        go_meet
        exact ⟨_, rfl, rfl, (by repeat (with_reducible first | assumption | exact Below.refl _ _ | refine Below.drew ?_ | refine kBa ?_ | refine kBb (by assumption) ?_))⟩
    case rest =>
      obtain ⟨w5, rfl, rfl, hb⟩ := hcut
      have HB5 := hid hb
      clear hb
      go_upto_region 9 with fail
      go_cut [9, 6] from 46 to 53 (fun u t wx => ∃ (wy : World) (b8 : Nat) (i : Int) (s : Bool) (x : Option Addr) (n c : Nat) (f : Nat → Int) (y : Option Addr) (m d : Nat) (g : Nat → Int) (er : Int), wy = wx ∧ u = .pointer (some ⟨b8, 0, none⟩) ∧ t = .int .i64 er ∧ ZAt (pa && pb) (EMax ia qa ib qb) w2 wy b8 i s x n c f y m d g er)
      case first =>
        have hrb := HB5.out
        have hzz := HB5.out.size
        obtain ⟨za, a0, a1, a2, a3⟩ := BA2.out.below HB5.out
        obtain ⟨zb, b0, b1, b2, b3⟩ := BB2.out.below HB5.out
        go_region_held3 (fun w' => w'.cell? ⟨w.heap.size, 0, none⟩ = some (.int .i64 ia) ∧ w'.cell? ⟨w.heap.size, 1, none⟩ = some (.bool sa) ∧ w'.cell? ⟨w.heap.size, 2, none⟩ = some (.slice xa na ca) ∧ w'.cell? ⟨w.heap.size, 3, none⟩ = some (.slice ya ma da) ∧ w'.cell? ⟨w.heap.size + 1, 0, none⟩ = some (.int .i64 ib) ∧ w'.cell? ⟨w.heap.size + 1, 1, none⟩ = some (.bool sb) ∧ w'.cell? ⟨w.heap.size + 1, 2, none⟩ = some (.slice xb nb cb) ∧ w'.cell? ⟨w.heap.size + 1, 3, none⟩ = some (.slice yb mb db))
          (refine ⟨?_, ?_, ?_, ?_, ?_, ?_, ?_, ?_⟩ <;> repeat (with_reducible first | assumption | refine kCd ?_ | refine kCa ?_ | refine kCs (by simp only [ne_eq]; omega) ?_ | refine kCb (by assumption) ?_))
          (first
            | (go_at_call 11; with_reducible refine (TA.out _ (by repeat (with_reducible first | assumption | exact Below.refl _ _ | refine Below.drew ?_ | refine kBa ?_ | refine kBb (by assumption) ?_))).mono ?_; rintro e v5 ⟨x5, c5, y5, d5, rfl, hb5, H5⟩; have hz5 := hb5.size; (try simp at hz5); (try (refine (fun (OX50 : Ob4 v5 (w5.heap.size)) => ?_) ?_; rotate_left; (focus (refine kO4b hb5 ?_; (repeat (with_reducible first | assumption | exact ob4_at rfl | refine Ob4.drew ?_ | refine kO4a ?_)); done)); obtain ⟨_, o50, p50, q50, r50, f50⟩ := id OX50)); (try (refine (fun (OX51 : Ob4 v5 (v6.heap.size)) => ?_) ?_; rotate_left; (focus (refine kO4b hb5 ?_; (repeat (with_reducible first | assumption | exact ob4_at rfl | refine Ob4.drew ?_ | refine kO4a ?_)); done)); obtain ⟨_, o51, p51, q51, r51, f51⟩ := id OX51)))
            | (go_at_call 11; with_reducible refine (TB.out _ (by repeat (with_reducible first | assumption | exact Below.refl _ _ | refine Below.drew ?_ | refine kBa ?_ | refine kBb (by assumption) ?_))).mono ?_; rintro e v6 ⟨x6, c6, y6, d6, rfl, hb6, H6⟩; have hz6 := hb6.size; (try simp at hz6); (try (refine (fun (OX60 : Ob4 v6 (w5.heap.size)) => ?_) ?_; rotate_left; (focus (refine kO4b hb6 ?_; (repeat (with_reducible first | assumption | exact ob4_at rfl | refine Ob4.drew ?_ | refine kO4a ?_)); done)); obtain ⟨_, o60, p60, q60, r60, f60⟩ := id OX60)); (try (refine (fun (OX61 : Ob4 v6 (v5.heap.size)) => ?_) ?_; rotate_left; (focus (refine kO4b hb6 ?_; (repeat (with_reducible first | assumption | exact ob4_at rfl | refine Ob4.drew ?_ | refine kO4a ?_)); done)); obtain ⟨_, o61, p61, q61, r61, f61⟩ := id OX61)))
            | (go_at_call 15; with_reducible refine (CMax.out _ x5 c5 y5 d5 x6 c6 y6 d6 (by repeat (with_reducible first | exact H5.out | refine kRwd ?_ | refine kRwa ?_ | refine kRwb (by assumption) ?_)) (by repeat (with_reducible first | exact H6.out | refine kRwd ?_ | refine kRwa ?_ | refine kRwb (by assumption) ?_))).mono ?_; rintro e v7 ⟨i7, s7, x7, n7, c7, f7, y7, m7, d7, g7, er7, rfl, hb7, H7⟩; have hz7 := hb7.size; (try simp at hz7); (try (refine (fun (OX70 : Ob4 v7 (w5.heap.size)) => ?_) ?_; rotate_left; (focus (refine kO4b hb7 ?_; (repeat (with_reducible first | assumption | exact ob4_at rfl | refine Ob4.drew ?_ | refine kO4a ?_)); done)); obtain ⟨_, o70, p70, q70, r70, f70⟩ := id OX70)); (try (refine (fun (OX71 : Ob4 v7 (v5.heap.size)) => ?_) ?_; rotate_left; (focus (refine kO4b hb7 ?_; (repeat (with_reducible first | assumption | exact ob4_at rfl | refine Ob4.drew ?_ | refine kO4a ?_)); done)); obtain ⟨_, o71, p71, q71, r71, f71⟩ := id OX71)); (try (refine (fun (OX72 : Ob4 v7 (v6.heap.size)) => ?_) ?_; rotate_left; (focus (refine kO4b hb7 ?_; (repeat (with_reducible first | assumption | exact ob4_at rfl | refine Ob4.drew ?_ | refine kO4a ?_)); done)); obtain ⟨_, o72, p72, q72, r72, f72⟩ := id OX72))))
        all_goals
          go_wp2_with fail
          go_meet
          have hbl : Below w2.heap.size w2 v7 := (by repeat (with_reducible first | assumption | exact Below.refl _ _ | refine Below.drew ?_ | refine kBa ?_ | refine kBb (by assumption) ?_))
          refine ⟨_, _, i7, s7, x7, n7, c7, f7, y7, m7, d7, g7, er7, rfl, rfl, rfl, ?_⟩
          with_reducible first
            | exact zat_a hbl H7.out
            | exact zat_s hbl H7.out (by first | (with_reducible assumption) | repeat (with_reducible first | exact ob4_at rfl | exact ob4_at (size_alloc1 _ _).symm | refine kO4b hb7 ?_ | refine kO4b hb6 ?_ | refine kO4b hb5 ?_ | refine Ob4.drew ?_ | refine kO4a ?_)) (by omega)
      case rest =>
        obtain ⟨w6, b9, i9, s9, x9, n9, c9, f9, y9, m9, d9, g9, er9, rfl, rfl, rfl, hZ⟩ := hcut
        have Z6 := hid hZ
        clear hZ
        obtain ⟨za, a0, a1, a2, a3⟩ := BA2.out.below Z6.out.bel
        obtain ⟨zb, b0, b1, b2, b3⟩ := BB2.out.below Z6.out.bel
        go_wp2_with fail
        refine (docMaxX_g (RA2.out.below Z6.out.bel) (RB2.out.below Z6.out.bel) (by omega) (by omega) (by omega) (by omega) HPA.out HPB.out (fun h => (HQA.out h).below Z6.out.bel) (fun h => (HQB.out h).below Z6.out.bel)).mono ?_
        rintro e w7 ⟨i10, s10, x10, n10, c10, f10, y10, m10, d10, g10, er10, rfl, hb, H10⟩
        have her := oe_er Z6.out.oe H10.out
        subst her
        have HB7 := hid (below_alloc (Z6.out.bel.trans (hb.mono Z6.out.bel.size)) (.cells #[.int .i64 i10, .bool s10, .slice x10 n10 c10, .slice y10 m10 d10] 26)); have W9 := hid ((Z6.out.wb.below hb).alloc (.cells #[.int .i64 i10, .bool s10, .slice x10 n10 c10, .slice y10 m10 d10] 26)); have W10 := hid (wb_at w7 i10 s10 x10 n10 c10 y10 m10 d10 26); have O9 := hid ((Z6.out.oe.below hb).alloc (.cells #[.int .i64 i10, .bool s10, .slice x10 n10 c10, .slice y10 m10 d10] 26)); have O10 := hid (H10.out.alloc (.cells #[.int .i64 i10, .bool s10, .slice x10 n10 c10, .slice y10 m10 d10] 26))
        have hle9 := Z6.out.le; have hlt9 := (Z6.out.wb.below hb).bx.z; have hle10 : w2.heap.size ≤ w7.heap.size := (Z6.out.bel.trans (hb.mono Z6.out.bel.size)).size
        clear hb H10 Z6 za a0 a1 a2 a3 zb b0 b1 b2 b3
        go_upto_region 11 with fail
        generalize w7.alloc (.cells #[.int .i64 i10, .bool s10, .slice x10 n10 c10, .slice y10 m10 d10] 26) = w8 at *
        generalize w7.heap.size = b10 at *
        have hne : b9 ≠ b10 := by omega
        obtain ⟨zp, p0, p1, p2, p3⟩ := W9.out.bx
        obtain ⟨zr, r0, r1, r2, r3⟩ := W10.out.bx
        go_wp2_with fail
        refine (lsame_c (fun W hW => oe_same (fun i q i' q' => EMax.uniq) (O9.out.below hW) (O10.out.below hW))).mono ?_
        rintro e w11 ⟨rfl, hb⟩
        have HB11 := hid (HB7.out.trans (hb.mono HB7.out.size)); have X9 := hid (W9.out.below hb); have X10 := hid (W10.out.below hb)
        clear hb zp p0 p1 p2 p3 zr r0 r1 r2 r3 W9 W10 O9 O10 HB7
        go_upto_region 13 with fail
        go_cut [6] from 66 to 73 (fun t wx => ∃ (wy : World) (i : Int) (s : Bool) (x : Option Addr) (n c : Nat) (f : Nat → Int) (y : Option Addr) (m d : Nat) (g : Nat → Int) (er : Int), wy = wx ∧ t = .int .i64 er ∧ ZAt (pa && pb) (EMin ia qa ib qb) w2 wy b9 i s x n c f y m d g er ∧ Wb wy b10 i10 s10 x10 n10 c10 y10 m10 d10)
        case first =>
          have hrb := HB11.out
          have hzz := HB11.out.size
          obtain ⟨za, a0, a1, a2, a3⟩ := BA2.out.below HB11.out
          obtain ⟨zb, b0, b1, b2, b3⟩ := BB2.out.below HB11.out
          obtain ⟨zp, p0, p1, p2, p3⟩ := X9.out.bx
          have pf := X9.out.fr
          go_region_held3 (fun w' => w'.cell? ⟨w.heap.size, 0, none⟩ = some (.int .i64 ia) ∧ w'.cell? ⟨w.heap.size, 1, none⟩ = some (.bool sa) ∧ w'.cell? ⟨w.heap.size, 2, none⟩ = some (.slice xa na ca) ∧ w'.cell? ⟨w.heap.size, 3, none⟩ = some (.slice ya ma da) ∧ w'.cell? ⟨w.heap.size + 1, 0, none⟩ = some (.int .i64 ib) ∧ w'.cell? ⟨w.heap.size + 1, 1, none⟩ = some (.bool sb) ∧ w'.cell? ⟨w.heap.size + 1, 2, none⟩ = some (.slice xb nb cb) ∧ w'.cell? ⟨w.heap.size + 1, 3, none⟩ = some (.slice yb mb db) ∧ (w'.cell? ⟨b9, 0, none⟩).isSome = true ∧ (w'.cell? ⟨b9, 1, none⟩).isSome = true ∧ (w'.cell? ⟨b9, 2, none⟩).isSome = true ∧ (w'.cell? ⟨b9, 3, none⟩).isSome = true ∧ w'.frozen? ⟨b9, 0, none⟩ = false ∧ w'.frozen? ⟨b9, 1, none⟩ = false ∧ w'.frozen? ⟨b9, 2, none⟩ = false ∧ w'.frozen? ⟨b9, 3, none⟩ = false)
            (refine ⟨?_, ?_, ?_, ?_, ?_, ?_, ?_, ?_, ?_, ?_, ?_, ?_, ?_, ?_, ?_, ?_⟩ <;> repeat (with_reducible first | assumption | exact pf _ | exact tf _ | exact uf _ | exact vf' _ | exact kI0 p0 | exact kI0 p1 | exact kI0 p2 | exact kI0 p3 | exact kI0 t0 | exact kI0 t1 | exact kI0 t2 | exact kI0 t3 | exact kI0 u0 | exact kI0 u1 | exact kI0 u2 | exact kI0 u3 | exact kI0 v0 | exact kI0 v1 | exact kI0 v2 | exact kI0 v3 | refine kCd ?_ | refine kId ?_ | refine kFd ?_ | refine kCs (by simp only [ne_eq]; omega) ?_ | refine kIs ?_ | refine kFs ?_ | refine kCb (by assumption) ?_ | refine kIb (by assumption) ?_))
            (first
              | (go_at_call 11; with_reducible refine (TA.out _ (by repeat (with_reducible first | assumption | exact Below.refl _ _ | refine Below.drew ?_ | refine kBa ?_ | refine kBb (by assumption) ?_))).mono ?_; rintro e v5 ⟨x5, c5, y5, d5, rfl, hb5, H5⟩; have hz5 := hb5.size; have Tt : Wb v5 b9 i9 s9 x9 n9 c9 y9 m9 d9 := (by repeat (with_reducible first | exact X9.out | exact Tt | exact Tu | exact Tv | refine kWbd ?_ | refine kWbb (by assumption) ?_)); obtain ⟨⟨_, t0, t1, t2, t3⟩, tf⟩ := id Tt)
              | (go_at_call 11; with_reducible refine (TB.out _ (by repeat (with_reducible first | assumption | exact Below.refl _ _ | refine Below.drew ?_ | refine kBa ?_ | refine kBb (by assumption) ?_))).mono ?_; rintro e v6 ⟨x6, c6, y6, d6, rfl, hb6, H6⟩; have hz6 := hb6.size; have Tu : Wb v6 b9 i9 s9 x9 n9 c9 y9 m9 d9 := (by repeat (with_reducible first | exact X9.out | exact Tt | exact Tu | exact Tv | refine kWbd ?_ | refine kWbb (by assumption) ?_)); obtain ⟨⟨_, u0, u1, u2, u3⟩, uf⟩ := id Tu)
              | (go_at_call 18; with_reducible refine (CMin.out _ x5 c5 y5 d5 x6 c6 y6 d6 (by repeat (with_reducible first | exact H5.out | refine kRwd ?_ | refine kRwa ?_ | refine kRwb (by assumption) ?_)) (by repeat (with_reducible first | exact H6.out | refine kRwd ?_ | refine kRwa ?_ | refine kRwb (by assumption) ?_))).mono ?_; rintro e v7 ⟨i7, s7, x7, n7, c7, f7, y7, m7, d7, g7, er7, rfl, hb7, H7⟩; have hz7 := hb7.size; have Tv : Wb v7 b9 i9 s9 x9 n9 c9 y9 m9 d9 := (by repeat (with_reducible first | exact X9.out | exact Tt | exact Tu | exact Tv | refine kWbd ?_ | refine kWbb (by assumption) ?_)); obtain ⟨⟨_, v0, v1, v2, v3⟩, vf'⟩ := id Tv))
          all_goals
            go_wp2_with fail
            go_meet
            have h10 : Wb v7 b10 i10 s10 x10 n10 c10 y10 m10 d10 := (by repeat (with_reducible first | exact X10.out | refine kWbd ?_ | refine kWbb (by assumption) ?_))
            have hbl : Below w2.heap.size w2 v7 := (by repeat (with_reducible first | assumption | exact Below.refl _ _ | refine Below.drew ?_ | refine kBa ?_ | refine kBb (by assumption) ?_))
            exact ⟨_, i7, s7, x7, n7, c7, f7, y7, m7, d7, g7, er7, rfl, rfl, zat_w hbl H7.out Tv hle9, h10.far4 hne⟩
        case rest =>
          obtain ⟨w12, i12, s12, x12, n12, c12, f12, y12, m12, d12, g12, er12, rfl, rfl, hZ, hX⟩ := hcut
          have Z12 := hid hZ; have X12 := hid hX
          clear hZ hX
          obtain ⟨za, a0, a1, a2, a3⟩ := BA2.out.below Z12.out.bel
          obtain ⟨zb, b0, b1, b2, b3⟩ := BB2.out.below Z12.out.bel
          go_wp2_with fail
          refine (docMinX_g (RA2.out.below Z12.out.bel) (RB2.out.below Z12.out.bel) (by omega) (by omega) (by omega) (by omega) HPA.out HPB.out (fun h => (HQA.out h).below Z12.out.bel) (fun h => (HQB.out h).below Z12.out.bel)).mono ?_
          rintro e w13 ⟨i13, s13, x13, n13, c13, f13, y13, m13, d13, g13, er13, rfl, hb, H13⟩
          have her := oe_er Z12.out.oe H13.out
          subst her
          have Y10 := hid (X12.out.below hb); have Y9 := hid (Z12.out.wb.below hb); have O12 := hid (Z12.out.oe.below hb); have HB13 := hid (Z12.out.bel.trans (hb.mono Z12.out.bel.size))
          clear hb za a0 a1 a2 a3 zb b0 b1 b2 b3 Z12 X12
          obtain ⟨zr, r0, r1, r2, r3⟩ := Y10.out.bx
          have rfz := Y10.out.fr
          go_upto_region 15 with fail
          have N9 := hid (Y9.out.far4 (u0 := .int .i64 i13) (u1 := .bool s13) (u2 := .slice x13 n13 c13) (u3 := .slice y13 m13 d13) hne.symm); have N10 := hid (Y10.out.put i13 s13 x13 n13 c13 y13 m13 d13); have OO9 := hid (Y10.out.oe (u0 := .int .i64 i13) (u1 := .bool s13) (u2 := .slice x13 n13 c13) (u3 := .slice y13 m13 d13) O12.out); have OO10 := hid (Y10.out.oe (u0 := .int .i64 i13) (u1 := .bool s13) (u2 := .slice x13 n13 c13) (u3 := .slice y13 m13 d13) H13.out); have HB14 := hid (below_st4 (u0 := .int .i64 i13) (u1 := .bool s13) (u2 := .slice x13 n13 c13) (u3 := .slice y13 m13 d13) HB13.out hle10)
          clear zr r0 r1 r2 r3 rfz Y9 Y10 O12 H13 HB13
          generalize (((w13.setCell ⟨b10, 0, none⟩ (.int .i64 i13)).setCell ⟨b10, 1, none⟩ (.bool s13)).setCell ⟨b10, 2, none⟩ (.slice x13 n13 c13)).setCell ⟨b10, 3, none⟩ (.slice y13 m13 d13) = w14 at *
          obtain ⟨zp, p0, p1, p2, p3⟩ := N9.out.bx
          obtain ⟨zr, r0, r1, r2, r3⟩ := N10.out.bx
          go_wp2_with fail
          refine (lsame_c (fun W hW => oe_same (fun i q i' q' => EMin.uniq) (OO9.out.below hW) (OO10.out.below hW))).mono ?_
          rintro e w15 ⟨rfl, hb⟩
          have HB15 := hid (HW2.out.trans ((HB14.out.trans (hb.mono HB14.out.size)).mono HW2.out.size))
          clear hb zp p0 p1 p2 p3 zr r0 r1 r2 r3
          go_wp2
          go_ret
          exact ⟨rfl, HB15.out⟩
end Go.Proofs.YtbindadjepfkcaaGreatDoor

/-
  Walks of ext: Of, Neg, Shift, Scale, whatever they are handed.
-/
import Derived.Test.YtbindadjepfkcaaGreatDoorZ11
namespace Go.Proofs.YtbindadjepfkcaaGreatDoor
open Go.RowKit

/-- What a call answers that answers a bound, with the error k. -/
def OX (k : Int) (P : Int → Rat → Prop) (w' : World) (i : Int) (s : Bool) (x : Option Addr) (n c : Nat) (f : Nat → Int) (y : Option Addr) (m d : Nat) (g : Nat → Int) (er : Int) : Prop :=
  er = k ∧ (k ≠ 0 ∧ (i = 0 ∧ n = 0 ∧ m = 0 ∧ s = false) ∨ k = 0 ∧ ∃ q, P i q ∧ En 2000 w' i s x n c f y m d g q)
theorem OX.below {k P w w' i s x n c f y m d g er} (h : OX k P w i s x n c f y m d g er) (hb : Below w.heap.size w w') : OX k P w' i s x n c f y m d g er := by
  rcases h with ⟨h0, h | ⟨h1, q, h3, h4⟩⟩
  · exact ⟨h0, .inl h⟩
  · exact ⟨h0, .inr ⟨h1, q, h3, h4.below hb⟩⟩
theorem OX.alloc {k P w i s x n c f y m d g er} (h : OX k P w i s x n c f y m d g er) (o : Obj) : OX k P (w.alloc o) i s x n c f y m d g er := h.below (below_alloc (Below.refl _ _) o)
theorem ox_same {k P w i s x n c f y m d g er i' s' x' n' c' f' y' m' d' g' er'} (hu : ∀ i q i' q', P i q → P i' q' → i = i' ∧ q = q') (h : OX k P w i s x n c f y m d g er) (k' : OX k P w i' s' x' n' c' f' y' m' d' g' er') :
    Calls Tryz.prog 35 #[.agg #[.int .i64 i, .bool s, .slice x n c, .slice y m d], .agg #[.int .i64 i', .bool s', .slice x' n' c', .slice y' m' d']] w fun e w' => e = .returned (.bool true) ∧ Below w.heap.size w w' := by
  rcases h with ⟨_, ⟨h1, h3, h4, h5, h6⟩ | ⟨h1, q, h3, h4⟩⟩ <;> rcases k' with ⟨_, ⟨k1, k3, k4, k5, k6⟩ | ⟨k1, q', k3, k4⟩⟩
  · subst h3 h4 h5 h6 k3 k4 k5 k6
    exact xSame_of (fun W hW => sameNone_c)
  · exact absurd k1 h1
  · exact absurd h1 k1
  · obtain ⟨e1, e2⟩ := hu _ _ _ _ h3 k3
    subst e1 e2
    refine xSame_of (fun W hW => (rSame_n (h4.below hW).rn (k4.below hW).rn (by omega) (by omega)).mono ?_)
    rintro e w' ⟨rfl, hb⟩
    exact ⟨by simp, hb⟩
def MRes (k : Int) (P : Int → Rat → Prop) (w w' : World) (e : Ending) : Prop := ∃ i s x n c f y m d g er, e = .returned (.tuple #[.agg #[.int .i64 i, .bool s, .slice x n c, .slice y m d], .int .i64 er]) ∧ Below w.heap.size w w' ∧ Hid (OX k P w' i s x n c f y m d g er)
def kx (p : Bool) : Int := if p then 0 else 3
theorem ef0 (s : Bool) (f : Nat → Int) (n : Nat) (g : Nat → Int) (m : Nat) : efB 0 s f n g m = rfB s f n g m := by simp [efB]
theorem Rn.en0 {L w s x n c f y m d g q} (h : Rn L w s x n c f y m d g q) : En L w 0 s x n c f y m d g q := ⟨h, .inl rfl⟩
def POf (r : Rat) (j : Int) (q : Rat) : Prop := j = 0 ∧ q = r
def PNeg (i : Int) (a : Rat) (j : Int) (q : Rat) : Prop := j = -i ∧ q = -a
def PShift (i : Int) (a r : Rat) (j : Int) (q : Rat) : Prop := i ≠ 0 ∧ j = i ∧ q = a ∨ i = 0 ∧ j = 0 ∧ q = a + r
def PScale (i : Int) (a r : Rat) (neg : Bool) (j : Int) (q : Rat) : Prop := j = (if neg then -i else i) ∧ q = a * r
theorem POf.uniq {r i q i' q'} (h : POf r i q) (k : POf r i' q') : i = i' ∧ q = q' := ⟨by rw [h.1, k.1], by rw [h.2, k.2]⟩
theorem PNeg.uniq {a b i q i' q'} (h : PNeg a b i q) (k : PNeg a b i' q') : i = i' ∧ q = q' := ⟨by rw [h.1, k.1], by rw [h.2, k.2]⟩
theorem PScale.uniq {a b r s i q i' q'} (h : PScale a b r s i q) (k : PScale a b r s i' q') : i = i' ∧ q = q' := ⟨by rw [h.1, k.1], by rw [h.2, k.2]⟩
theorem PShift.uniq {a b r i q i' q'} (h : PShift a b r i q) (k : PShift a b r i' q') : i = i' ∧ q = q' := by
  rcases h with ⟨h1, h2, h3⟩ | ⟨h1, h2, h3⟩ <;> rcases k with ⟨k1, k2, k3⟩ | ⟨k1, k2, k3⟩
  · exact ⟨by rw [h2, k2], by rw [h3, k3]⟩
  · exact absurd k1 h1
  · exact absurd h1 k1
  · exact ⟨by rw [h2, k2], by rw [h3, k3]⟩

set_option maxRecDepth 100000 in
set_option maxHeartbeats 4000000 in
theorem eOf_g {w : World} {s2 : Bool} {x2 : Option Addr} {n2 c2 : Nat} {f2 : Nat → Int} {y2 : Option Addr} {m2 d2 : Nat} {g2 : Nat → Int} {p : Bool} {r : Rat} (h : Rw w x2 n2 c2 f2 y2 m2 d2 g2) (hn : n2 ≤ 100) (hm : m2 ≤ 100) (hp : rfB s2 f2 n2 g2 m2 = p) (hq : p = true → Rn 100 w s2 x2 n2 c2 f2 y2 m2 d2 g2 r) :
    Calls Tryz.prog 21 #[.agg #[.bool s2, .slice x2 n2 c2, .slice y2 m2 d2]] w fun e w' => MRes (kx p) (POf r) w w' e := by
  have k1 := (bx3_at w (.bool s2) (.slice x2 n2 c2) (.slice y2 m2 d2) 24).alloc (.cells #[.int .i64 0, .bool false, .slice none 0 0, .slice none 0 0] 26)
  have k5 := ob4_new (w.alloc (.cells #[.bool s2, .slice x2 n2 c2, .slice y2 m2 d2] 24)) 26
  rw [size_alloc1] at k5
  have k3 := below_alloc (below_alloc (Below.refl w.heap.size w) (.cells #[.bool s2, .slice x2 n2 c2, .slice y2 m2 d2] 24)) (.cells #[.int .i64 0, .bool false, .slice none 0 0, .slice none 0 0] 26)
  have HR := hid (h.below k3); have HP := hid hp; have HQ := hid (fun k => (hq k).below k3)
  clear h hp hq
  go_enter Tryz.func21, Tryz.ntmps21
  go_upto_region 1 with fail
  generalize (w.alloc (.cells #[.bool s2, .slice x2 n2 c2, .slice y2 m2 d2] 24)).alloc (.cells #[.int .i64 0, .bool false, .slice none 0 0, .slice none 0 0] 26) = w1 at *
  have HW := hid k3; have OB := hid k5; have BB := hid k1
  clear k1 k3 k5
  obtain ⟨zb, b0, b1, b2⟩ := BB.out
  go_wp2_with fail
  refine enumber_c.mono ?_
  rintro e w2 ⟨rfl, hb⟩
  have HB2 := hid hb
  clear hb zb b0 b1 b2
  have cf := fun (t : TypeId) => allForm1_c (i := 0) (bx4_at w2 (.int .i64 0) (.bool s2) (.slice x2 n2 c2) (.slice y2 m2 d2) t) ((HR.out.below HB2.out).alloc _) (by omega) (by omega)
  rw [ef0, HP.out] at cf
  have CF := hid cf
  clear cf
  go_wp2_with fail
  refine (CF.out _).mono ?_
  rintro e w3 ⟨rfl, hb⟩
  have HB3 : Hid (Below w1.heap.size w1 w3) := HB2.out.trans (((below_alloc (Below.refl w2.heap.size w2) _).trans (hb.mono (by simp))).mono HB2.out.size)
  have HB := hid (HW.out.trans (HB3.out.mono HW.out.size))
  clear hb CF
  cases p
  · obtain ⟨hz, z0, z1, z2, z3, zf⟩ := OB.out.below HB3.out
    go_wp2
    exact bodyPost_ret (v := .tuple #[.agg #[.int .i64 0, .bool false, .slice none 0 0, .slice none 0 0], .int .i64 3]) (by simp [results, Tryz.results21, go_sem, z0, z1, z2, z3]) rfl ⟨0, false, none, 0, 0, fun _ => 0, none, 0, 0, fun _ => 0, 3, rfl, below_st4 HB.out (by omega), rfl, .inl ⟨by decide, rfl, rfl, rfl, rfl⟩⟩
  have E3 := hid ((HQ.out rfl).below HB3.out)
  obtain ⟨zb, b0, b1, b2⟩ := BB.out.below HB3.out
  go_wp2_with fail
  refine enumber_c.mono ?_
  rintro e w4 ⟨rfl, hb⟩
  have HB4 := hid (HB3.out.trans (hb.mono HB3.out.size)); have E4 := hid (E3.out.below hb)
  clear hb zb b0 b1 b2
  go_wp2_with fail
  refine (eCopy_c E4.out.en0 (by omega)).mono ?_
  rintro e w5 ⟨s5, x5, n5, c5, f5, y5, m5, d5, g5, rfl, hb, he⟩
  have HB5 := hid (HW.out.trans ((HB4.out.trans (hb.mono HB4.out.size)).mono HW.out.size)); have OB5 := hid ((OB.out.below HB4.out).below hb); have E5 := hid he
  clear hb he
  obtain ⟨hz, z0, z1, z2, z3, zf⟩ := OB5.out
  go_wp2
  exact bodyPost_ret (v := .tuple #[.agg #[.int .i64 0, .bool s5, .slice x5 n5 c5, .slice y5 m5 d5], .int .i64 0]) (by simp [results, Tryz.results21, go_sem, z0, z1, z2, z3]) rfl ⟨0, s5, x5, n5, c5, f5, y5, m5, d5, g5, 0, rfl, below_st4 HB5.out (by omega), rfl, .inr ⟨rfl, r, ⟨rfl, rfl⟩, ⟨OB5.out.rn (E5.out.rn.mono (by omega)), .inl rfl⟩⟩⟩

set_option maxRecDepth 100000 in
set_option maxHeartbeats 4000000 in
theorem eNeg_g {w : World} {i : Int} {s : Bool} {x : Option Addr} {n c : Nat} {f : Nat → Int} {y : Option Addr} {m d : Nat} {g : Nat → Int} {p : Bool} {q : Rat} (h : Rw w x n c f y m d g) (hn : n ≤ 100) (hm : m ≤ 100) (hp : efB i s f n g m = p) (hq : p = true → En 100 w i s x n c f y m d g q) :
    Calls Tryz.prog 24 #[.agg #[.int .i64 i, .bool s, .slice x n c, .slice y m d]] w fun e w' => MRes (kx p) (PNeg i q) w w' e := by
  have k1 := (bx4_at w (.int .i64 i) (.bool s) (.slice x n c) (.slice y m d) 26).alloc (.cells #[.int .i64 0, .bool false, .slice none 0 0, .slice none 0 0] 26)
  have k5 := ob4_new (w.alloc (.cells #[.int .i64 i, .bool s, .slice x n c, .slice y m d] 26)) 26
  rw [size_alloc1] at k5
  have k3 := below_alloc (below_alloc (Below.refl w.heap.size w) (.cells #[.int .i64 i, .bool s, .slice x n c, .slice y m d] 26)) (.cells #[.int .i64 0, .bool false, .slice none 0 0, .slice none 0 0] 26)
  have HR := hid (h.below k3); have HP := hid hp; have HQ := hid (fun k => (hq k).below k3)
  clear h hp hq
  go_enter Tryz.func24, Tryz.ntmps24
  go_upto_region 1 with fail
  generalize (w.alloc (.cells #[.int .i64 i, .bool s, .slice x n c, .slice y m d] 26)).alloc (.cells #[.int .i64 0, .bool false, .slice none 0 0, .slice none 0 0] 26) = w1 at *
  have HW := hid k3; have OB := hid k5; have BB := hid k1
  clear k1 k3 k5
  obtain ⟨zb, b0, b1, b2, b3⟩ := BB.out
  have cf := fun (t : TypeId) => allForm1_c (i := i) (bx4_at w1 (.int .i64 i) (.bool s) (.slice x n c) (.slice y m d) t) (HR.out.alloc _) (by omega) (by omega)
  rw [HP.out] at cf
  have CF := hid cf
  clear cf
  go_wp2_with fail
  refine (CF.out _).mono ?_
  rintro e w3 ⟨rfl, hb⟩
  have HB3 : Hid (Below w1.heap.size w1 w3) := (below_alloc (Below.refl w1.heap.size w1) _).trans (hb.mono (by simp))
  have HB := hid (HW.out.trans (HB3.out.mono HW.out.size))
  clear hb CF zb b0 b1 b2 b3
  cases p
  · obtain ⟨hz, z0, z1, z2, z3, zf⟩ := OB.out.below HB3.out
    go_wp2
    exact bodyPost_ret (v := .tuple #[.agg #[.int .i64 0, .bool false, .slice none 0 0, .slice none 0 0], .int .i64 3]) (by simp [results, Tryz.results24, go_sem, z0, z1, z2, z3]) rfl ⟨0, false, none, 0, 0, fun _ => 0, none, 0, 0, fun _ => 0, 3, rfl, below_st4 HB.out (by omega), rfl, .inl ⟨by decide, rfl, rfl, rfl, rfl⟩⟩
  have E3 := hid ((HQ.out rfl).below HB3.out)
  have OB3 := hid (OB.out.below HB3.out)
  obtain ⟨zb, b0, b1, b2, b3⟩ := BB.out.below HB3.out
  have hi3 : i = 0 ∨ (i = -1 ∨ i = 1) ∧ q = 0 := E3.out.inf
  rcases hi3 with rfl | ⟨rfl | rfl, hq0⟩
  · go_wp2_with fail
    refine (rNeg_n E3.out.rn (by omega)).mono ?_
    rintro e w4 ⟨s4, x4, n4, c4, f4, y4, m4, d4, g4, rfl, hb, hr⟩
    have HB4 := hid (below_alloc (HB.out.trans (hb.mono HB.out.size)) (.cells #[.bool s4, .slice x4 n4 c4, .slice y4 m4 d4] 24)); have OB4 := hid ((OB3.out.below hb).alloc (.cells #[.bool s4, .slice x4 n4 c4, .slice y4 m4 d4] 24)); have R4 := hid (hr.alloc (.cells #[.bool s4, .slice x4 n4 c4, .slice y4 m4 d4] 24)); have BX4 := hid (bx3_at w4 (.bool s4) (.slice x4 n4 c4) (.slice y4 m4 d4) 24)
    clear hb hr zb b0 b1 b2 b3
    obtain ⟨zx, x0, x1, x2'⟩ := BX4.out
    go_wp2_with fail
    generalize w4.alloc (.cells #[.bool s4, .slice x4 n4 c4, .slice y4 m4 d4] 24) = w5 at *
    generalize w4.heap.size = b5 at *
    refine enumber_c.mono ?_
    rintro e w6 ⟨rfl, hb⟩
    have HB6 := hid (HB4.out.trans (hb.mono HB4.out.size)); have OB6 := hid (OB4.out.below hb); have R6 := hid (R4.out.below hb)
    clear hb zx x0 x1 x2'
    obtain ⟨hz, z0, z1, z2, z3, zf⟩ := OB6.out
    go_wp2
    exact bodyPost_ret (v := .tuple #[.agg #[.int .i64 0, .bool s4, .slice x4 n4 c4, .slice y4 m4 d4], .int .i64 0]) (by simp [results, Tryz.results24, go_sem, z0, z1, z2, z3]) rfl ⟨0, s4, x4, n4, c4, f4, y4, m4, d4, g4, 0, rfl, below_st4 HB6.out (by omega), rfl, .inr ⟨rfl, -q, ⟨rfl, rfl⟩, ⟨OB6.out.rn (R6.out.mono (by omega)), .inl rfl⟩⟩⟩
  all_goals
    have HQ0 : Hid (-q = 0) := by show -q = 0; rw [hq0]; exact Rat.neg_zero
    clear hq0
    go_wp2_with fail
    refine eInf_c.mono ?_
    rintro e w4 ⟨s4, x4, n4, c4, f4, y4, m4, d4, g4, rfl, hb, hr⟩
    have HB4 := hid (HB.out.trans (hb.mono HB.out.size)); have OB4 := hid (OB3.out.below hb); have R4 := hid hr
    clear hb hr zb b0 b1 b2 b3
    obtain ⟨hz, z0, z1, z2, z3, zf⟩ := OB4.out
    go_wp2
    first
      | exact bodyPost_ret (v := .tuple #[.agg #[.int .i64 1, .bool s4, .slice x4 n4 c4, .slice y4 m4 d4], .int .i64 0]) (by simp [results, Tryz.results24, go_sem, z0, z1, z2, z3]) rfl ⟨1, s4, x4, n4, c4, f4, y4, m4, d4, g4, 0, rfl, below_st4 HB4.out (by omega), rfl, .inr ⟨rfl, 0, ⟨rfl, HQ0.out.symm⟩, ⟨OB4.out.rn (R4.out.mono (by omega)), .inr ⟨by decide, rfl⟩⟩⟩⟩
      | exact bodyPost_ret (v := .tuple #[.agg #[.int .i64 (-1), .bool s4, .slice x4 n4 c4, .slice y4 m4 d4], .int .i64 0]) (by simp [results, Tryz.results24, go_sem, z0, z1, z2, z3]) rfl ⟨-1, s4, x4, n4, c4, f4, y4, m4, d4, g4, 0, rfl, below_st4 HB4.out (by omega), rfl, .inr ⟨rfl, 0, ⟨rfl, HQ0.out.symm⟩, ⟨OB4.out.rn (R4.out.mono (by omega)), .inr ⟨by decide, rfl⟩⟩⟩⟩

set_option maxRecDepth 100000 in
set_option maxHeartbeats 4000000 in
theorem eShift_g {w : World} {i : Int} {s : Bool} {x : Option Addr} {n c : Nat} {f : Nat → Int} {y : Option Addr} {m d : Nat} {g : Nat → Int} {s2 : Bool} {x2 : Option Addr} {n2 c2 : Nat} {f2 : Nat → Int} {y2 : Option Addr} {m2 d2 : Nat} {g2 : Nat → Int} {p1 p2 : Bool} {q r : Rat} (h1 : Rw w x n c f y m d g) (h2 : Rw w x2 n2 c2 f2 y2 m2 d2 g2) (hn : n ≤ 100) (hm : m ≤ 100) (hn2 : n2 ≤ 100) (hm2 : m2 ≤ 100) (hp1 : efB i s f n g m = p1) (hp2 : rfB s2 f2 n2 g2 m2 = p2) (hq1 : p1 = true → En 100 w i s x n c f y m d g q) (hq2 : p2 = true → Rn 100 w s2 x2 n2 c2 f2 y2 m2 d2 g2 r) :
    Calls Tryz.prog 26 #[.agg #[.int .i64 i, .bool s, .slice x n c, .slice y m d], .agg #[.bool s2, .slice x2 n2 c2, .slice y2 m2 d2]] w fun e w' => MRes (kx (p1 && p2)) (PShift i q r) w w' e := by
  have k1 := ((bx4_at w (.int .i64 i) (.bool s) (.slice x n c) (.slice y m d) 26).alloc (.cells #[.bool s2, .slice x2 n2 c2, .slice y2 m2 d2] 24)).alloc (.cells #[.int .i64 0, .bool false, .slice none 0 0, .slice none 0 0] 26)
  have k2 := (bx3_at (w.alloc (.cells #[.int .i64 i, .bool s, .slice x n c, .slice y m d] 26)) (.bool s2) (.slice x2 n2 c2) (.slice y2 m2 d2) 24).alloc (.cells #[.int .i64 0, .bool false, .slice none 0 0, .slice none 0 0] 26)
  rw [size_alloc1] at k2
  have k5 := ob4_new ((w.alloc (.cells #[.int .i64 i, .bool s, .slice x n c, .slice y m d] 26)).alloc (.cells #[.bool s2, .slice x2 n2 c2, .slice y2 m2 d2] 24)) 26
  rw [size_alloc1, size_alloc1] at k5
  have k3 := below_alloc (below_alloc (below_alloc (Below.refl w.heap.size w) (.cells #[.int .i64 i, .bool s, .slice x n c, .slice y m d] 26)) (.cells #[.bool s2, .slice x2 n2 c2, .slice y2 m2 d2] 24)) (.cells #[.int .i64 0, .bool false, .slice none 0 0, .slice none 0 0] 26)
  have HR1 := hid (h1.below k3); have HR2 := hid (h2.below k3); have HP1 := hid hp1; have HP2 := hid hp2; have HQ1 := hid (fun k => (hq1 k).below k3); have HQ2 := hid (fun k => (hq2 k).below k3)
  clear h1 h2 hp1 hp2 hq1 hq2
  go_enter Tryz.func26, Tryz.ntmps26
  go_upto_region 1 with fail
  generalize ((w.alloc (.cells #[.int .i64 i, .bool s, .slice x n c, .slice y m d] 26)).alloc (.cells #[.bool s2, .slice x2 n2 c2, .slice y2 m2 d2] 24)).alloc (.cells #[.int .i64 0, .bool false, .slice none 0 0, .slice none 0 0] 26) = w1 at *
  have HW := hid k3; have OB := hid k5; have BA := hid k1; have BB := hid k2
  clear k1 k2 k3 k5
  obtain ⟨pp, hpp⟩ : ∃ pp, (p1 && p2) = pp := ⟨_, rfl⟩
  have HPP := hid hpp
  have CN : Hid (∀ W : World, Calls Tryz.prog 57 #[.agg #[.bool s2, .slice x2 n2 c2, .slice y2 m2 d2]] W fun e w' => e = .returned (.agg #[.int .i64 0, .bool s2, .slice x2 n2 c2, .slice y2 m2 d2]) ∧ Below W.heap.size W w') := fun W => enumber_c
  have CAF : Hid (∀ (W : World) (B : Nat), Li2 W B (.int .i64 i) (.bool s) (.slice x n c) (.slice y m d) (.int .i64 0) (.bool s2) (.slice x2 n2 c2) (.slice y2 m2 d2) → Below w1.heap.size w1 W → Calls Tryz.prog 45 #[.slice (some ⟨B, 0, none⟩) 2 2] W fun e w' => e = .returned (.bool pp) ∧ Below W.heap.size W w') := fun W B hB hW => by
    have := allForm2_c hB (HR1.out.below hW) (HR2.out.below hW) (by omega) (by omega) (by omega) (by omega)
    rw [ef0, HP1.out, HP2.out, HPP.out] at this
    exact this
  clear hpp
  go_cut [13] from 8 to 12 (fun u wx => ∃ (wy : World), wy = wx ∧ u = .bool (!pp) ∧ Below w1.heap.size w1 wy)
  case first =>
    obtain ⟨za, a0, a1, a2, a3⟩ := BA.out
    obtain ⟨zb, b0, b1, b2⟩ := BB.out
    go_region_held3 (fun w' => w'.cell? ⟨w.heap.size, 0, none⟩ = some (.int .i64 i) ∧ w'.cell? ⟨w.heap.size, 1, none⟩ = some (.bool s) ∧ w'.cell? ⟨w.heap.size, 2, none⟩ = some (.slice x n c) ∧ w'.cell? ⟨w.heap.size, 3, none⟩ = some (.slice y m d) ∧ w'.cell? ⟨w.heap.size + 1, 0, none⟩ = some (.bool s2) ∧ w'.cell? ⟨w.heap.size + 1, 1, none⟩ = some (.slice x2 n2 c2) ∧ w'.cell? ⟨w.heap.size + 1, 2, none⟩ = some (.slice y2 m2 d2))
      (refine ⟨?_, ?_, ?_, ?_, ?_, ?_, ?_⟩ <;> repeat (with_reducible first | assumption | refine kCd ?_ | refine kCa ?_ | refine kCb (by assumption) ?_))
      (first
        | (go_at_call 57; with_reducible refine (CN.out _).mono ?_; rintro e v5 ⟨rfl, hb5⟩)
        | (go_at_call 45; with_reducible refine (CAF.out _ _ (by repeat (with_reducible first | exact li2_at _ _ _ _ _ _ _ _ _ _ | refine kLid ?_)) (by repeat (with_reducible first | assumption | exact Below.refl _ _ | refine Below.drew ?_ | refine kBa ?_ | refine kBb (by assumption) ?_))).mono ?_; rintro e v6 ⟨rfl, hb6⟩))
    all_goals
      go_wp2_with fail
      go_meet
      exact ⟨_, rfl, rfl, (by repeat (with_reducible first | assumption | exact Below.refl _ _ | refine Below.drew ?_ | refine kBa ?_ | refine kBb (by assumption) ?_))⟩
  case rest =>
    obtain ⟨w3, rfl, rfl, hb⟩ := hcut
    have HB3 := hid hb
    have HB := hid (HW.out.trans (HB3.out.mono HW.out.size))
    have OB3 := hid (OB.out.below HB3.out)
    clear hb CN CAF
    cases pp
    · obtain ⟨hz, z0, z1, z2, z3, zf⟩ := OB3.out
      go_wp2
      exact bodyPost_ret (v := .tuple #[.agg #[.int .i64 0, .bool false, .slice none 0 0, .slice none 0 0], .int .i64 3]) (by simp [results, Tryz.results26, go_sem, z0, z1, z2, z3]) rfl ⟨0, false, none, 0, 0, fun _ => 0, none, 0, 0, fun _ => 0, 3, rfl, below_st4 HB.out (by omega), by rw [HPP.out]; rfl, .inl ⟨by rw [HPP.out]; exact (by decide : (3 : Int) ≠ 0), rfl, rfl, rfl, rfl⟩⟩
    have hpq : p1 = true ∧ p2 = true := by simpa using HPP.out
    have E3 := hid ((HQ1.out hpq.1).below HB3.out); have S3 := hid ((HQ2.out hpq.2).below HB3.out)
    have hi3 : i = 0 ∨ (i = -1 ∨ i = 1) ∧ q = 0 := E3.out.inf
    clear hpq
    obtain ⟨za, a0, a1, a2, a3⟩ := BA.out.below HB3.out
    obtain ⟨zb, b0, b1, b2⟩ := BB.out.below HB3.out
    rcases hi3 with rfl | ⟨hi, hq0⟩
    · go_wp2_with fail
      refine (rAdd_n E3.out.rn S3.out (by omega)).mono ?_
      rintro e w4 ⟨s4, x4, n4, c4, f4, y4, m4, d4, g4, rfl, hb, hr⟩
      have HB4 := hid (below_alloc (HB.out.trans (hb.mono HB.out.size)) (.cells #[.bool s4, .slice x4 n4 c4, .slice y4 m4 d4] 24)); have OB4 := hid ((OB3.out.below hb).alloc (.cells #[.bool s4, .slice x4 n4 c4, .slice y4 m4 d4] 24)); have R4 := hid (hr.alloc (.cells #[.bool s4, .slice x4 n4 c4, .slice y4 m4 d4] 24)); have BX4 := hid (bx3_at w4 (.bool s4) (.slice x4 n4 c4) (.slice y4 m4 d4) 24)
      clear hb hr za a0 a1 a2 a3 zb b0 b1 b2
      obtain ⟨zx, x0, x1, x2'⟩ := BX4.out
      go_wp2_with fail
      generalize w4.alloc (.cells #[.bool s4, .slice x4 n4 c4, .slice y4 m4 d4] 24) = w5 at *
      generalize w4.heap.size = b5 at *
      refine enumber_c.mono ?_
      rintro e w6 ⟨rfl, hb⟩
      have HB6 := hid (HB4.out.trans (hb.mono HB4.out.size)); have OB6 := hid (OB4.out.below hb); have R6 := hid (R4.out.below hb)
      clear hb zx x0 x1 x2'
      obtain ⟨hz, z0, z1, z2, z3, zf⟩ := OB6.out
      go_wp2
      exact bodyPost_ret (v := .tuple #[.agg #[.int .i64 0, .bool s4, .slice x4 n4 c4, .slice y4 m4 d4], .int .i64 0]) (by simp [results, Tryz.results26, go_sem, z0, z1, z2, z3]) rfl ⟨0, s4, x4, n4, c4, f4, y4, m4, d4, g4, 0, rfl, below_st4 HB6.out (by omega), by rw [HPP.out]; rfl, .inr ⟨by rw [HPP.out]; rfl, q + r, .inr ⟨rfl, rfl, rfl⟩, ⟨OB6.out.rn (R6.out.mono (by omega)), .inl rfl⟩⟩⟩
    · have hne : (i != 0) = true := by simp; omega
      have HI := hid hi; have HQ0 := hid hq0
      clear hi hq0
      go_wp2_with fail
      refine eInf_c.mono ?_
      rintro e w4 ⟨s4, x4, n4, c4, f4, y4, m4, d4, g4, rfl, hb, hr⟩
      have HB4 := hid (HB.out.trans (hb.mono HB.out.size)); have OB4 := hid (OB3.out.below hb); have R4 := hid hr
      clear hb hr za a0 a1 a2 a3 zb b0 b1 b2
      obtain ⟨hz, z0, z1, z2, z3, zf⟩ := OB4.out
      go_wp2
      exact bodyPost_ret (v := .tuple #[.agg #[.int .i64 i, .bool s4, .slice x4 n4 c4, .slice y4 m4 d4], .int .i64 0]) (by simp [results, Tryz.results26, go_sem, z0, z1, z2, z3]) rfl ⟨i, s4, x4, n4, c4, f4, y4, m4, d4, g4, 0, rfl, below_st4 HB4.out (by omega), by rw [HPP.out]; rfl, .inr ⟨by rw [HPP.out]; rfl, 0, .inl ⟨by have := HI.out; omega, rfl, HQ0.out.symm⟩, ⟨OB4.out.rn (R4.out.mono (by omega)), .inr ⟨HI.out, rfl⟩⟩⟩⟩

def ks (p : Bool) (n2 : Nat) : Int := if p then (if n2 = 0 then 4 else 0) else 3

set_option maxRecDepth 100000 in
set_option maxHeartbeats 4000000 in
theorem eScale_g {w : World} {i : Int} {s : Bool} {x : Option Addr} {n c : Nat} {f : Nat → Int} {y : Option Addr} {m d : Nat} {g : Nat → Int} {s2 : Bool} {x2 : Option Addr} {n2 c2 : Nat} {f2 : Nat → Int} {y2 : Option Addr} {m2 d2 : Nat} {g2 : Nat → Int} {p1 p2 : Bool} {q r : Rat} (h1 : Rw w x n c f y m d g) (h2 : Rw w x2 n2 c2 f2 y2 m2 d2 g2) (hn : n ≤ 100) (hm : m ≤ 100) (hn2 : n2 ≤ 100) (hm2 : m2 ≤ 100) (hp1 : efB i s f n g m = p1) (hp2 : rfB s2 f2 n2 g2 m2 = p2) (hq1 : p1 = true → En 100 w i s x n c f y m d g q) (hq2 : p2 = true → Rn 100 w s2 x2 n2 c2 f2 y2 m2 d2 g2 r) :
    Calls Tryz.prog 28 #[.agg #[.int .i64 i, .bool s, .slice x n c, .slice y m d], .agg #[.bool s2, .slice x2 n2 c2, .slice y2 m2 d2]] w fun e w' => MRes (ks (p1 && p2) n2) (PScale i q r s2) w w' e := by
  have k1 := ((bx4_at w (.int .i64 i) (.bool s) (.slice x n c) (.slice y m d) 26).alloc (.cells #[.bool s2, .slice x2 n2 c2, .slice y2 m2 d2] 24)).alloc (.cells #[.int .i64 0, .bool false, .slice none 0 0, .slice none 0 0] 26)
  have k2 := (bx3_at (w.alloc (.cells #[.int .i64 i, .bool s, .slice x n c, .slice y m d] 26)) (.bool s2) (.slice x2 n2 c2) (.slice y2 m2 d2) 24).alloc (.cells #[.int .i64 0, .bool false, .slice none 0 0, .slice none 0 0] 26)
  rw [size_alloc1] at k2
  have k5 := ob4_new ((w.alloc (.cells #[.int .i64 i, .bool s, .slice x n c, .slice y m d] 26)).alloc (.cells #[.bool s2, .slice x2 n2 c2, .slice y2 m2 d2] 24)) 26
  rw [size_alloc1, size_alloc1] at k5
  have k3 := below_alloc (below_alloc (below_alloc (Below.refl w.heap.size w) (.cells #[.int .i64 i, .bool s, .slice x n c, .slice y m d] 26)) (.cells #[.bool s2, .slice x2 n2 c2, .slice y2 m2 d2] 24)) (.cells #[.int .i64 0, .bool false, .slice none 0 0, .slice none 0 0] 26)
  have HR1 := hid (h1.below k3); have HR2 := hid (h2.below k3); have HP1 := hid hp1; have HP2 := hid hp2; have HQ1 := hid (fun k => (hq1 k).below k3); have HQ2 := hid (fun k => (hq2 k).below k3)
  clear h1 h2 hp1 hp2 hq1 hq2
  go_enter Tryz.func28, Tryz.ntmps28
  go_upto_region 1 with fail
  generalize ((w.alloc (.cells #[.int .i64 i, .bool s, .slice x n c, .slice y m d] 26)).alloc (.cells #[.bool s2, .slice x2 n2 c2, .slice y2 m2 d2] 24)).alloc (.cells #[.int .i64 0, .bool false, .slice none 0 0, .slice none 0 0] 26) = w1 at *
  have HW := hid k3; have OB := hid k5; have BA := hid k1; have BB := hid k2
  clear k1 k2 k3 k5
  obtain ⟨pp, hpp⟩ : ∃ pp, (p1 && p2) = pp := ⟨_, rfl⟩
  have HPP := hid hpp
  have CN : Hid (∀ W : World, Calls Tryz.prog 57 #[.agg #[.bool s2, .slice x2 n2 c2, .slice y2 m2 d2]] W fun e w' => e = .returned (.agg #[.int .i64 0, .bool s2, .slice x2 n2 c2, .slice y2 m2 d2]) ∧ Below W.heap.size W w') := fun W => enumber_c
  have CAF : Hid (∀ (W : World) (B : Nat), Li2 W B (.int .i64 i) (.bool s) (.slice x n c) (.slice y m d) (.int .i64 0) (.bool s2) (.slice x2 n2 c2) (.slice y2 m2 d2) → Below w1.heap.size w1 W → Calls Tryz.prog 45 #[.slice (some ⟨B, 0, none⟩) 2 2] W fun e w' => e = .returned (.bool pp) ∧ Below W.heap.size W w') := fun W B hB hW => by
    have := allForm2_c hB (HR1.out.below hW) (HR2.out.below hW) (by omega) (by omega) (by omega) (by omega)
    rw [ef0, HP1.out, HP2.out, HPP.out] at this
    exact this
  clear hpp
  go_cut [8] from 9 to 14 (fun u wx => ∃ (wy : World), wy = wx ∧ u = .bool (!pp) ∧ Below w1.heap.size w1 wy)
  case first =>
    obtain ⟨za, a0, a1, a2, a3⟩ := BA.out
    obtain ⟨zb, b0, b1, b2⟩ := BB.out
    go_region_held3 (fun w' => w'.cell? ⟨w.heap.size, 0, none⟩ = some (.int .i64 i) ∧ w'.cell? ⟨w.heap.size, 1, none⟩ = some (.bool s) ∧ w'.cell? ⟨w.heap.size, 2, none⟩ = some (.slice x n c) ∧ w'.cell? ⟨w.heap.size, 3, none⟩ = some (.slice y m d) ∧ w'.cell? ⟨w.heap.size + 1, 0, none⟩ = some (.bool s2) ∧ w'.cell? ⟨w.heap.size + 1, 1, none⟩ = some (.slice x2 n2 c2) ∧ w'.cell? ⟨w.heap.size + 1, 2, none⟩ = some (.slice y2 m2 d2))
      (refine ⟨?_, ?_, ?_, ?_, ?_, ?_, ?_⟩ <;> repeat (with_reducible first | assumption | refine kCd ?_ | refine kCa ?_ | refine kCb (by assumption) ?_))
      (first
        | (go_at_call 57; with_reducible refine (CN.out _).mono ?_; rintro e v5 ⟨rfl, hb5⟩)
        | (go_at_call 45; with_reducible refine (CAF.out _ _ (by repeat (with_reducible first | exact li2_at _ _ _ _ _ _ _ _ _ _ | refine kLid ?_)) (by repeat (with_reducible first | assumption | exact Below.refl _ _ | refine Below.drew ?_ | refine kBa ?_ | refine kBb (by assumption) ?_))).mono ?_; rintro e v6 ⟨rfl, hb6⟩))
    all_goals
      go_wp2_with fail
      go_meet
      exact ⟨_, rfl, rfl, (by repeat (with_reducible first | assumption | exact Below.refl _ _ | refine Below.drew ?_ | refine kBa ?_ | refine kBb (by assumption) ?_))⟩
  case rest =>
    obtain ⟨w3, rfl, rfl, hb⟩ := hcut
    have HB3 := hid hb
    have HB := hid (HW.out.trans (HB3.out.mono HW.out.size))
    have OB3 := hid (OB.out.below HB3.out)
    clear hb CN CAF
    cases pp
    · obtain ⟨hz, z0, z1, z2, z3, zf⟩ := OB3.out
      go_wp2
      exact bodyPost_ret (v := .tuple #[.agg #[.int .i64 0, .bool false, .slice none 0 0, .slice none 0 0], .int .i64 3]) (by simp [results, Tryz.results28, go_sem, z0, z1, z2, z3]) rfl ⟨0, false, none, 0, 0, fun _ => 0, none, 0, 0, fun _ => 0, 3, rfl, below_st4 HB.out (by omega), by rw [HPP.out]; rfl, .inl ⟨by rw [HPP.out]; exact (by decide : (3 : Int) ≠ 0), rfl, rfl, rfl, rfl⟩⟩
    have hpq : p1 = true ∧ p2 = true := by simpa using HPP.out
    have E3 := hid ((HQ1.out hpq.1).below HB3.out); have S3 := hid ((HQ2.out hpq.2).below HB3.out)
    have hi3 : i = 0 ∨ (i = -1 ∨ i = 1) ∧ q = 0 := E3.out.inf
    clear hpq
    obtain ⟨za, a0, a1, a2, a3⟩ := BA.out.below HB3.out
    obtain ⟨zb, b0, b1, b2⟩ := BB.out.below HB3.out
    go_wp2_with fail
    refine eIsZero_c.mono ?_
    rintro e w7 ⟨rfl, hb⟩
    have HB7 := hid (HB.out.trans (hb.mono HB.out.size)); have HB37 := hid (HB3.out.trans (hb.mono HB3.out.size)); have OB7 := hid (OB3.out.below hb); have E7 := hid (E3.out.below hb); have S7 := hid (S3.out.below hb)
    clear hb za a0 a1 a2 a3 zb b0 b1 b2 HB OB3 E3 S3
    by_cases hz2 : n2 = 0
    · rw [decide_eq_true hz2]
      have HK : Hid (ks (p1 && p2) n2 = 4) := by show ks (p1 && p2) n2 = 4; rw [HPP.out, ks, if_pos rfl, if_pos hz2]
      clear hz2
      obtain ⟨hz, z0, z1, z2, z3, zf⟩ := OB7.out
      go_wp2
      exact bodyPost_ret (v := .tuple #[.agg #[.int .i64 0, .bool false, .slice none 0 0, .slice none 0 0], .int .i64 4]) (by simp [results, Tryz.results28, go_sem, z0, z1, z2, z3]) rfl ⟨0, false, none, 0, 0, fun _ => 0, none, 0, 0, fun _ => 0, 4, rfl, below_st4 HB7.out (by omega), HK.out.symm, .inl ⟨by rw [HK.out]; decide, rfl, rfl, rfl, rfl⟩⟩
    rw [decide_eq_false hz2]
    have HK : Hid (ks (p1 && p2) n2 = 0) := by show ks (p1 && p2) n2 = 0; rw [HPP.out, ks, if_pos rfl, if_neg hz2]
    clear hz2
    obtain ⟨za, a0, a1, a2, a3⟩ := BA.out.below HB37.out
    obtain ⟨zb, b0, b1, b2⟩ := BB.out.below HB37.out
    rcases hi3 with rfl | ⟨hi, hq0⟩
    · go_wp2_with fail
      refine (rMul_n E7.out.rn S7.out (by omega)).mono ?_
      rintro e w4 ⟨s4, x4, n4, c4, f4, y4, m4, d4, g4, rfl, hb, hr⟩
      have HB4 := hid (below_alloc (HB7.out.trans (hb.mono HB7.out.size)) (.cells #[.bool s4, .slice x4 n4 c4, .slice y4 m4 d4] 24)); have OB4 := hid ((OB7.out.below hb).alloc (.cells #[.bool s4, .slice x4 n4 c4, .slice y4 m4 d4] 24)); have R4 := hid (hr.alloc (.cells #[.bool s4, .slice x4 n4 c4, .slice y4 m4 d4] 24)); have BX4 := hid (bx3_at w4 (.bool s4) (.slice x4 n4 c4) (.slice y4 m4 d4) 24)
      clear hb hr za a0 a1 a2 a3 zb b0 b1 b2
      obtain ⟨zx, x0, x1, x2'⟩ := BX4.out
      go_wp2_with fail
      generalize w4.alloc (.cells #[.bool s4, .slice x4 n4 c4, .slice y4 m4 d4] 24) = w5 at *
      generalize w4.heap.size = b5 at *
      refine enumber_c.mono ?_
      rintro e w6 ⟨rfl, hb⟩
      have HB6 := hid (HB4.out.trans (hb.mono HB4.out.size)); have OB6 := hid (OB4.out.below hb); have R6 := hid (R4.out.below hb)
      clear hb zx x0 x1 x2'
      obtain ⟨hz, z0, z1, z2, z3, zf⟩ := OB6.out
      go_wp2
      exact bodyPost_ret (v := .tuple #[.agg #[.int .i64 0, .bool s4, .slice x4 n4 c4, .slice y4 m4 d4], .int .i64 0]) (by simp [results, Tryz.results28, go_sem, z0, z1, z2, z3]) rfl ⟨0, s4, x4, n4, c4, f4, y4, m4, d4, g4, 0, rfl, below_st4 HB6.out (by omega), HK.out.symm, .inr ⟨HK.out, q * r, ⟨by cases s2 <;> rfl, rfl⟩, ⟨OB6.out.rn (R6.out.mono (by omega)), .inl rfl⟩⟩⟩
    have HQ0 : Hid ((0 : Rat) = q * r) := by show (0 : Rat) = q * r; rw [hq0, Rat.zero_mul]
    clear hq0
    rcases hi with rfl | rfl <;> cases s2
    all_goals
      go_wp2_with fail
      refine eInf_c.mono ?_
      rintro e w4 ⟨s4, x4, n4, c4, f4, y4, m4, d4, g4, rfl, hb, hr⟩
      have HB4 := hid (HB7.out.trans (hb.mono HB7.out.size)); have OB4 := hid (OB7.out.below hb); have R4 := hid hr
      clear hb hr za a0 a1 a2 a3 zb b0 b1 b2
      obtain ⟨hz, z0, z1, z2, z3, zf⟩ := OB4.out
      go_wp2
      first
        | exact bodyPost_ret (v := .tuple #[.agg #[.int .i64 1, .bool s4, .slice x4 n4 c4, .slice y4 m4 d4], .int .i64 0]) (by simp [results, Tryz.results28, go_sem, z0, z1, z2, z3]) rfl ⟨1, s4, x4, n4, c4, f4, y4, m4, d4, g4, 0, rfl, below_st4 HB4.out (by omega), HK.out.symm, .inr ⟨HK.out, 0, ⟨rfl, HQ0.out⟩, ⟨OB4.out.rn (R4.out.mono (by omega)), .inr ⟨by decide, rfl⟩⟩⟩⟩
        | exact bodyPost_ret (v := .tuple #[.agg #[.int .i64 (-1), .bool s4, .slice x4 n4 c4, .slice y4 m4 d4], .int .i64 0]) (by simp [results, Tryz.results28, go_sem, z0, z1, z2, z3]) rfl ⟨-1, s4, x4, n4, c4, f4, y4, m4, d4, g4, 0, rfl, below_st4 HB4.out (by omega), HK.out.symm, .inr ⟨HK.out, 0, ⟨rfl, HQ0.out⟩, ⟨OB4.out.rn (R4.out.mono (by omega)), .inr ⟨by decide, rfl⟩⟩⟩⟩
end Go.Proofs.YtbindadjepfkcaaGreatDoor

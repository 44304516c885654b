/-
  Walks of the document's reference for whole: DocDivide. Walks of rat's Floor where it tells an error, and of the document's DocFloor. The walk of RatOrders.
-/
import Derived.Test.YtndiiknbkjlbiaaGreatDoorZ10
import Derived.Test.YtndiiknbkjlbiaaGreatDoorZ11
namespace Go.Proofs.YtndiiknbkjlbiaaGreatDoor
open Go.RowKit

/-- What DocDivide answers. -/
def DGot (w w' : World) (e : Ending) (sa sb : Bool) (na nb : Nat) (fa fb : Nat → Int) : Prop := ∃ r1 p1 k1 c1 q r2 p2 k2 c2 r er, e = .returned (.tuple #[.agg #[.bool r1, .slice p1 k1 c1], .agg #[.bool r2, .slice p2 k2 c2], .int .i64 er]) ∧ Below w.heap.size w w' ∧ k1 ≤ 8192 ∧ k2 ≤ 8192 ∧ Wn w' r1 p1 k1 c1 q (wv r1 q k1) ∧ Wn w' r2 p2 k2 c2 r (wv r2 r k2) ∧ WDiv sa sb na nb fa fb r1 r2 k1 k2 q r er
theorem wn_nil (w : World) : Wn w false none 0 0 (fun _ => 0) (wv false (fun _ => 0) 0) := ⟨Rd.zero, fun j hj => by omega, by decide, by omega, fun _ => ⟨rfl, rfl⟩, rfl⟩
theorem Wn.self {w s x n c f v} (h : Wn w s x n c f v) : Wn w s x n c f (wv s f n) := ⟨h.rd, h.lm, h.wf, h.cap, h.nil, rfl⟩
/-- Quotient and rest as the reference holds them. -/
structure VAt (w1 wx : World) (b8 b9 : Nat) (s5 : Bool) (z5 : Option Addr) (m5 c5 : Nat) (d5 : Nat → Int) (s6 : Bool) (z6 : Option Addr) (m6 c6 : Nat) (d6 : Nat → Int) (u v q r : Int) : Prop where
  bx : Bx wx b8 s5 z5 m5 c5
  by' : Bx wx b9 s6 z6 m6 c6
  bel : Below w1.heap.size w1 wx
  zq : Zn wx s5 z5 m5 d5 q
  zr : Zn wx s6 z6 m6 d6 r
  fl : Flr u v q r
  l5 : m5 ≤ 8192
  l6 : m6 ≤ 8192
  o8 : w1.heap.size ≤ b8
  o9 : w1.heap.size ≤ b9

theorem size_st2 (w : World) (B : Nat) (u0 u1 : Value) : ((w.setCell ⟨B, 0, none⟩ u0).setCell ⟨B, 1, none⟩ u1).heap.size = w.heap.size := by simp [World.setCell]
theorem bx_first (w : World) (t : TypeId) (s : Bool) (x : Option Addr) (n c : Nat) : Bx (w.alloc (.cells #[.bool s, .slice x n c] t)) w.heap.size s x n c := ⟨by simp, kN0, kN1⟩
theorem bx_next (w : World) (o : Obj) (t : TypeId) (s : Bool) (x : Option Addr) (n c : Nat) : Bx ((w.alloc o).alloc (.cells #[.bool s, .slice x n c] t)) (w.heap.size + 1) s x n c := by
  have := bx_first (w.alloc o) t s x n c
  rw [size_alloc1] at this; exact this
theorem bx_st (w : World) (B : Nat) (u0 u1 : Value) (t : TypeId) (s : Bool) (x : Option Addr) (n c : Nat) : Bx (((w.setCell ⟨B, 0, none⟩ u0).setCell ⟨B, 1, none⟩ u1).alloc (.cells #[.bool s, .slice x n c] t)) w.heap.size s x n c := by
  have := bx_first ((w.setCell ⟨B, 0, none⟩ u0).setCell ⟨B, 1, none⟩ u1) t s x n c
  rw [size_st2] at this; exact this
theorem X2.bx {w B s x n c} (h : X2 w B s x n c) : Bx w B s x n c := ⟨h.z, h.c0, h.c1⟩
theorem vat_aa {w1 v : World} {t : TypeId} {s5 : Bool} {z5 : Option Addr} {m5 c5 : Nat} {d5 : Nat → Int} {s6 : Bool} {z6 : Option Addr} {m6 c6 : Nat} {d6 : Nat → Int} {u v' q r : Int} (hb : Below w1.heap.size w1 v) (hD : m5 ≤ 8192 ∧ m6 ≤ 8192 ∧ Zn v s5 z5 m5 d5 q ∧ Zn v s6 z6 m6 d6 r ∧ Flr u v' q r) : VAt w1 ((v.alloc (.cells #[.bool s5, .slice z5 m5 c5] t)).alloc (.cells #[.bool s6, .slice z6 m6 c6] t)) v.heap.size (v.heap.size + 1) s5 z5 m5 c5 d5 s6 z6 m6 c6 d6 u v' q r :=
  ⟨(bx_first _ _ _ _ _ _).alloc _, bx_next _ _ _ _ _ _ _, below_alloc (below_alloc hb _) _, (hD.2.2.1.alloc _).alloc _, (hD.2.2.2.1.alloc _).alloc _, hD.2.2.2.2, hD.1, hD.2.1, hb.size, by have := hb.size; omega⟩
theorem vat_ab {w1 v : World} {t : TypeId} {s5 : Bool} {z5 : Option Addr} {m5 c5 : Nat} {d5 : Nat → Int} {s6 : Bool} {z6 : Option Addr} {m6 c6 : Nat} {d6 : Nat → Int} {u v' q r : Int} (hb : Below w1.heap.size w1 v) (hD : m5 ≤ 8192 ∧ m6 ≤ 8192 ∧ Zn v s5 z5 m5 d5 q ∧ Zn v s6 z6 m6 d6 r ∧ Flr u v' q r) : VAt w1 ((v.alloc (.cells #[.bool s6, .slice z6 m6 c6] t)).alloc (.cells #[.bool s5, .slice z5 m5 c5] t)) (v.heap.size + 1) v.heap.size s5 z5 m5 c5 d5 s6 z6 m6 c6 d6 u v' q r :=
  ⟨bx_next _ _ _ _ _ _ _, (bx_first _ _ _ _ _ _).alloc _, below_alloc (below_alloc hb _) _, (hD.2.2.1.alloc _).alloc _, (hD.2.2.2.1.alloc _).alloc _, hD.2.2.2.2, hD.1, hD.2.1, by have := hb.size; omega, hb.size⟩
theorem vat_sa {w1 v : World} {b8 : Nat} {t : TypeId} {s5 : Bool} {z5 : Option Addr} {m5 c5 : Nat} {d5 : Nat → Int} {s6 : Bool} {z6 : Option Addr} {m6 c6 : Nat} {d6 : Nat → Int} {u v' q r : Int} (hb : Below w1.heap.size w1 v) (hD : m5 ≤ 8192 ∧ m6 ≤ 8192 ∧ Zn v s5 z5 m5 d5 q ∧ Zn v s6 z6 m6 d6 r ∧ Flr u v' q r) (h8 : Ob2 v b8) (o8 : w1.heap.size ≤ b8) : VAt w1 ((((v).setCell ⟨b8, 0, none⟩ (.bool s5)).setCell ⟨b8, 1, none⟩ (.slice z5 m5 c5)).alloc (.cells #[.bool s6, .slice z6 m6 c6] t)) b8 v.heap.size s5 z5 m5 c5 d5 s6 z6 m6 c6 d6 u v' q r :=
  ⟨(h8.x2.put _ _ _ _).bx.alloc _, bx_st _ _ _ _ _ _ _ _ _, below_alloc (below_st2 hb o8) _, (h8.x2.zn hD.2.2.1).alloc _, (h8.x2.zn hD.2.2.2.1).alloc _, hD.2.2.2.2, hD.1, hD.2.1, o8, hb.size⟩
theorem vat_as {w1 v : World} {b9 : Nat} {t : TypeId} {s5 : Bool} {z5 : Option Addr} {m5 c5 : Nat} {d5 : Nat → Int} {s6 : Bool} {z6 : Option Addr} {m6 c6 : Nat} {d6 : Nat → Int} {u v' q r : Int} (hb : Below w1.heap.size w1 v) (hD : m5 ≤ 8192 ∧ m6 ≤ 8192 ∧ Zn v s5 z5 m5 d5 q ∧ Zn v s6 z6 m6 d6 r ∧ Flr u v' q r) (h9 : Ob2 v b9) (o9 : w1.heap.size ≤ b9) : VAt w1 ((((v).setCell ⟨b9, 0, none⟩ (.bool s6)).setCell ⟨b9, 1, none⟩ (.slice z6 m6 c6)).alloc (.cells #[.bool s5, .slice z5 m5 c5] t)) v.heap.size b9 s5 z5 m5 c5 d5 s6 z6 m6 c6 d6 u v' q r :=
  ⟨bx_st _ _ _ _ _ _ _ _ _, (h9.x2.put _ _ _ _).bx.alloc _, below_alloc (below_st2 hb o9) _, (h9.x2.zn hD.2.2.1).alloc _, (h9.x2.zn hD.2.2.2.1).alloc _, hD.2.2.2.2, hD.1, hD.2.1, hb.size, o9⟩
theorem vat_ss {w1 v : World} {b8 b9 : Nat} {s5 : Bool} {z5 : Option Addr} {m5 c5 : Nat} {d5 : Nat → Int} {s6 : Bool} {z6 : Option Addr} {m6 c6 : Nat} {d6 : Nat → Int} {u v' q r : Int} (hb : Below w1.heap.size w1 v) (hD : m5 ≤ 8192 ∧ m6 ≤ 8192 ∧ Zn v s5 z5 m5 d5 q ∧ Zn v s6 z6 m6 d6 r ∧ Flr u v' q r) (h8 : Ob2 v b8) (o8 : w1.heap.size ≤ b8) (h9 : Ob2 v b9) (o9 : w1.heap.size ≤ b9) (hne : b9 ≠ b8) : VAt w1 (((((v).setCell ⟨b8, 0, none⟩ (.bool s5)).setCell ⟨b8, 1, none⟩ (.slice z5 m5 c5)).setCell ⟨b9, 0, none⟩ (.bool s6)).setCell ⟨b9, 1, none⟩ (.slice z6 m6 c6)) b8 b9 s5 z5 m5 c5 d5 s6 z6 m6 c6 d6 u v' q r :=
  ⟨(h8.x2.put _ _ _ _).bx.far hne, ((h9.far hne.symm).x2.put _ _ _ _).bx, below_st2 (below_st2 hb o8) o9, (h9.far hne.symm).x2.zn (h8.x2.zn hD.2.2.1), (h9.far hne.symm).x2.zn (h8.x2.zn hD.2.2.2.1), hD.2.2.2.2, hD.1, hD.2.1, o8, o9⟩

end Go.Proofs.YtndiiknbkjlbiaaGreatDoor
namespace Go.Proofs.YtndiiknbkjlbiaaGreatDoor
open Go.RowKit

theorem kDa {w x n d V} {o : Obj} (h : Dn w x n d V) : Dn (w.alloc o) x n d V := h.alloc o

set_option maxRecDepth 100000 in
set_option maxHeartbeats 4000000 in
theorem rFloorErr_c {w : World} {s : Bool} {x : Option Addr} {n c : Nat} {f : Nat → Int} {y : Option Addr} {m e : Nat} {g : Nat → Int} (h : Rw w x n c f y m e g) (hn : n ≤ 1000) (hm : m ≤ 1000) (hp : rfB s f n g m = false) :
    Calls Tryz.prog 23 #[.agg #[.bool s, .slice x n c, .slice y m e]] w fun en w' => en = .returned (.tuple #[.agg #[.bool false, .slice none 0 0], .int .i64 3]) ∧ Below w.heap.size w w' := by
  have h1 := (bx3_at w (.bool s) (.slice x n c) (.slice y m e) 24).alloc (.cells #[.bool false, .slice none 0 0] 45)
  have h2 := ob2_new (w.alloc (.cells #[.bool s, .slice x n c, .slice y m e] 24)) 45
  rw [size_alloc1] at h2
  have h4 := below_alloc (below_alloc (Below.refl w.heap.size w) (.cells #[.bool s, .slice x n c, .slice y m e] 24)) (.cells #[.bool false, .slice none 0 0] 45)
  have h5 := h.below h4
  clear h
  go_enter Tryz.func23, Tryz.ntmps23
  go_wp2_with fail
  generalize (w.alloc (.cells #[.bool s, .slice x n c, .slice y m e] 24)).alloc (.cells #[.bool false, .slice none 0 0] 45) = w1 at *
  have HR := hid h5; have HW := hid h4; have BX := hid h1; have OB := hid h2
  clear h1 h2 h4 h5
  have c1 := rForm_c (s := s) HR.out (by omega) (by omega)
  rw [hp] at c1
  refine c1.mono ?_
  rintro en w2 ⟨rfl, hb⟩
  have HB := hid (HW.out.trans (hb.mono HW.out.size))
  obtain ⟨hz, z0, z1, zf⟩ := OB.out.below hb
  clear c1 hb hp
  go_wp2
  exact bodyPost_ret (v := .tuple #[.agg #[.bool false, .slice none 0 0], .int .i64 3]) (by simp [results, Tryz.results23, go_sem, z0, z1]) rfl ⟨rfl, below_st2 HB.out (by omega)⟩

set_option maxRecDepth 100000 in
set_option maxHeartbeats 4000000 in
theorem docFloorErr_c {w : World} {s : Bool} {x : Option Addr} {n c : Nat} {f : Nat → Int} {y : Option Addr} {m e : Nat} {g : Nat → Int} (h : Rw w x n c f y m e g) (hn : n ≤ 1000) (hm : m ≤ 1000) (hp : rfB s f n g m = false) :
    Calls Tryz.prog 24 #[.agg #[.bool s, .slice x n c, .slice y m e]] w fun en w' => en = .returned (.tuple #[.agg #[.bool false, .slice none 0 0], .int .i64 3]) ∧ Below w.heap.size w w' := by
  have h1 := (bx3_at w (.bool s) (.slice x n c) (.slice y m e) 24).alloc (.cells #[.bool false, .slice none 0 0] 45)
  have h2 := ob2_new (w.alloc (.cells #[.bool s, .slice x n c, .slice y m e] 24)) 45
  rw [size_alloc1] at h2
  have h4 := below_alloc (below_alloc (Below.refl w.heap.size w) (.cells #[.bool s, .slice x n c, .slice y m e] 24)) (.cells #[.bool false, .slice none 0 0] 45)
  have h5 := h.below h4
  clear h
  go_enter Tryz.func24, Tryz.ntmps24
  go_wp2_with fail
  generalize (w.alloc (.cells #[.bool s, .slice x n c, .slice y m e] 24)).alloc (.cells #[.bool false, .slice none 0 0] 45) = w1 at *
  have HR := hid h5; have HW := hid h4; have BX := hid h1; have OB := hid h2
  clear h1 h2 h4 h5
  have c1 := qForm_c (s := s) HR.out (by omega) (by omega)
  rw [hp] at c1
  refine c1.mono ?_
  rintro en w2 ⟨rfl, hb⟩
  have HB := hid (HW.out.trans (hb.mono HW.out.size))
  obtain ⟨hz, z0, z1, zf⟩ := OB.out.below hb
  clear c1 hb hp
  go_wp2
  exact bodyPost_ret (v := .tuple #[.agg #[.bool false, .slice none 0 0], .int .i64 3]) (by simp [results, Tryz.results24, go_sem, z0, z1]) rfl ⟨rfl, below_st2 HB.out (by omega)⟩

set_option maxRecDepth 100000 in
set_option maxHeartbeats 16000000 in
theorem docFloorOk_c {w : World} {s : Bool} {x : Option Addr} {n c : Nat} {f : Nat → Int} {y : Option Addr} {m e : Nat} {g : Nat → Int} {q : Rat} (h : Rw w x n c f y m e g) (hq : Rn 100 w s x n c f y m e g q) :
    Calls Tryz.prog 24 #[.agg #[.bool s, .slice x n c, .slice y m e]] w fun en w' => ∃ s' z k c' f', en = .returned (.tuple #[.agg #[.bool s', .slice z k c'], .int .i64 0]) ∧ Below w.heap.size w w' ∧ k ≤ 8192 ∧ Wn w' s' z k c' f' q.floor := by
  have hn := hq.ln; have hm := hq.ld
  have HQ0 := hid hq; have HP := hid hq.rf
  clear hq
  have h1 := (bx3_at w (.bool s) (.slice x n c) (.slice y m e) 24).alloc (.cells #[.bool false, .slice none 0 0] 45)
  have h2 := ob2_new (w.alloc (.cells #[.bool s, .slice x n c, .slice y m e] 24)) 45
  rw [size_alloc1] at h2
  have h4 := below_alloc (below_alloc (Below.refl w.heap.size w) (.cells #[.bool s, .slice x n c, .slice y m e] 24)) (.cells #[.bool false, .slice none 0 0] 45)
  have h5 := h.below h4
  clear h
  go_enter Tryz.func24, Tryz.ntmps24
  go_wp2_with fail
  generalize (w.alloc (.cells #[.bool s, .slice x n c, .slice y m e] 24)).alloc (.cells #[.bool false, .slice none 0 0] 45) = w1 at *
  have HR := hid h5; have HW := hid h4; have BX := hid h1; have OB := hid h2
  clear h1 h2 h4 h5
  have c1 := qForm_c (s := s) HR.out (by omega) (by omega)
  rw [HP.out] at c1
  refine c1.mono ?_
  rintro en w2 ⟨rfl, hb⟩
  have HB2 := hid (HW.out.trans (hb.mono HW.out.size)); have HB12 := hid hb
  have OB2 := hid (OB.out.below hb)
  clear c1 hb
  obtain ⟨z, x0, x1, x2⟩ := BX.out.below HB12.out
  have HQ := hid (HQ0.out.below HB2.out)
  have hzw : w.heap.size + 1 < w2.heap.size := OB2.out.z
  have hden := q.den_pos
  have HD0 := hid (show (q.den : Int) ≠ 0 by omega)
  clear hden
  have C1 : Hid (∀ W, Below w2.heap.size w2 W → Calls Tryz.prog 47 #[.agg #[.bool s, .slice x n c, .slice y m e]] W fun en w' => ∃ s x n c d y m c' g, en = .returned (.agg #[.bool s, .slice x n c, .slice y m c']) ∧ Below W.heap.size W w' ∧ Hid (n ≤ 200 ∧ m ≤ 200 ∧ Zn w' s x n d q.num)) := fun W hW => (qFrom_c (HQ.out.below hW) (by omega)).mono (fun _ _ ⟨s, x, n, c, d, y, m, c', g, k1, k2, k3, k4, k5⟩ => ⟨s, x, n, c, d, y, m, c', g, k1, k2, k3, k4, k5.num⟩)
  have C2 : Hid (∀ W, Below w2.heap.size w2 W → Calls Tryz.prog 62 #[.slice y m e] W fun en w' => ∃ z k c d, en = .returned (.slice z k c) ∧ Below W.heap.size W w' ∧ Hid (k ≤ 200 ∧ Dn w' z k d q.den)) := fun W hW => (fromD_c (by omega) (HQ.out.below hW).den.rd HQ.out.den.lm).mono (fun _ _ ⟨z, k, c, d, k1, k2, k3, k4⟩ => ⟨z, k, c, d, k1, k2, by omega, by
    have e2 : (vf g m).toNat = q.den := by
      have := HQ.out.den.val
      rw [wv_false] at this; omega
    rw [e2] at k4; exact k4⟩)
  have C3 : Hid (∀ (W : World) (z : Option Addr) (k c : Nat) (d : Nat → Int), k ≤ 200 → Dn W z k d q.den → Calls Tryz.prog 69 #[.bool false, .slice z k c] W fun en w' => ∃ r, en = .returned (.agg #[.bool r, .slice z k c]) ∧ Below W.heap.size W w' ∧ Hid (Zn w' r z k d (q.den : Int))) := fun W z k c d h1 h2 => mkZn_c h2 (by omega)
  have CD : Hid (∀ (W : World) (s5 : Bool) (z5 : Option Addr) (m5 c5 : Nat) (d5 : Nat → Int) (s6 : Bool) (z6 : Option Addr) (m6 c6 : Nat) (d6 : Nat → Int), m5 ≤ 200 → m6 ≤ 200 → Zn W s5 z5 m5 d5 q.num → Zn W s6 z6 m6 d6 (q.den : Int) → Calls Tryz.prog 68 #[.agg #[.bool s5, .slice z5 m5 c5], .agg #[.bool s6, .slice z6 m6 c6]] W fun e w' => ∃ s x n c d t y m c' g q' r, e = .returned (.tuple #[.agg #[.bool s, .slice x n c], .agg #[.bool t, .slice y m c']]) ∧ Below W.heap.size W w' ∧ Hid (n ≤ 8192 ∧ m ≤ 8192 ∧ Zn w' s x n d q' ∧ Zn w' t y m g r ∧ Flr q.num q.den q' r)) := fun W s5 z5 m5 c5 d5 s6 z6 m6 c6 d6 h1 h2 h3 h4 => zDivide_c h3 h4 (by omega) (by omega) HD0.out
  have hfd : ∀ (b : Bool) (x : Option Addr) (n c : Nat) (y : Option Addr) (m e : Nat) (w : World), (Instr.field 72 (.agg #[.bool b, .slice x n c, .slice y m e]) 0).run Tryz.prog w = .ok (.agg #[.bool b, .slice x n c]) w := fun _ _ _ _ _ _ _ _ => by kernel_rfl
  go_upto_region 3 with fail
  go_cut [4, 5] from 10 to 20 (fun p1 q1 wx => ∃ (wy : World) (b8 b9 : Nat) (s5 : Bool) (z5 : Option Addr) (m5 c5 : Nat) (d5 : Nat → Int) (s6 : Bool) (z6 : Option Addr) (m6 c6 : Nat) (d6 : Nat → Int) (q' r : Int), wy = wx ∧ p1 = .pointer (some ⟨b8, 0, none⟩) ∧ q1 = .pointer (some ⟨b9, 0, none⟩) ∧ VAt w2 wy b8 b9 s5 z5 m5 c5 d5 s6 z6 m6 c6 d6 q.num q.den q' r)
  case first =>
    go_region_held3 (fun w' => w'.cell? ⟨w.heap.size, 0, none⟩ = some (.bool s) ∧ w'.cell? ⟨w.heap.size, 1, none⟩ = some (.slice x n c) ∧ w'.cell? ⟨w.heap.size, 2, none⟩ = some (.slice y m e))
      (refine ⟨?_, ?_, ?_⟩ <;> repeat (with_reducible first | assumption | refine kCd ?_ | refine kCa ?_ | refine kCs (by simp only [ne_eq]; omega) ?_ | refine kCb (by assumption) ?_))
      (first
        | (go_at_call 47; with_reducible refine (C1.out _ (by repeat (with_reducible first | assumption | exact Below.refl _ _ | refine Below.drew ?_ | refine kBa ?_ | refine kBb (by assumption) ?_))).mono ?_; rintro e v5 ⟨s5, x5, n5, c5, d5, y5, m5, e5, g5, rfl, hb5, H5⟩; have hz5 := hb5.size; (try simp at hz5); (try (refine (fun (OX50 : Ob2 v5 (w2.heap.size)) => ?_) ?_; rotate_left; (focus (refine kO2b hb5 ?_; (repeat (with_reducible first | assumption | exact ob2_at rfl | exact ob2_at (size_alloc1 _ _).symm | refine Ob2.drew ?_ | refine kO2a ?_)); done)); obtain ⟨_, o50, p50, f50⟩ := id OX50)); (try (refine (fun (OX51 : Ob2 v5 (w2.heap.size + 1)) => ?_) ?_; rotate_left; (focus (refine kO2b hb5 ?_; (repeat (with_reducible first | assumption | exact ob2_at rfl | exact ob2_at (size_alloc1 _ _).symm | refine Ob2.drew ?_ | refine kO2a ?_)); done)); obtain ⟨_, o51, p51, f51⟩ := id OX51)); (try (refine (fun (OX52 : Ob2 v5 (v6.heap.size)) => ?_) ?_; rotate_left; (focus (refine kO2b hb5 ?_; (repeat (with_reducible first | assumption | exact ob2_at rfl | exact ob2_at (size_alloc1 _ _).symm | refine Ob2.drew ?_ | refine kO2a ?_)); done)); obtain ⟨_, o52, p52, f52⟩ := id OX52)); (try (refine (fun (OX53 : Ob2 v5 (v6.heap.size + 1)) => ?_) ?_; rotate_left; (focus (refine kO2b hb5 ?_; (repeat (with_reducible first | assumption | exact ob2_at rfl | exact ob2_at (size_alloc1 _ _).symm | refine Ob2.drew ?_ | refine kO2a ?_)); done)); obtain ⟨_, o53, p53, f53⟩ := id OX53)); (try (refine (fun (OX54 : Ob2 v5 (v7.heap.size)) => ?_) ?_; rotate_left; (focus (refine kO2b hb5 ?_; (repeat (with_reducible first | assumption | exact ob2_at rfl | exact ob2_at (size_alloc1 _ _).symm | refine Ob2.drew ?_ | refine kO2a ?_)); done)); obtain ⟨_, o54, p54, f54⟩ := id OX54)); (try (refine (fun (OX55 : Ob2 v5 (v7.heap.size + 1)) => ?_) ?_; rotate_left; (focus (refine kO2b hb5 ?_; (repeat (with_reducible first | assumption | exact ob2_at rfl | exact ob2_at (size_alloc1 _ _).symm | refine Ob2.drew ?_ | refine kO2a ?_)); done)); obtain ⟨_, o55, p55, f55⟩ := id OX55)))
        | (go_at_call 62; with_reducible refine (C2.out _ (by repeat (with_reducible first | assumption | exact Below.refl _ _ | refine Below.drew ?_ | refine kBa ?_ | refine kBb (by assumption) ?_))).mono ?_; rintro e v6 ⟨z6, k6, c6, d6, rfl, hb6, H6⟩; have hz6 := hb6.size; (try simp at hz6); (try (refine (fun (OX60 : Ob2 v6 (w2.heap.size)) => ?_) ?_; rotate_left; (focus (refine kO2b hb6 ?_; (repeat (with_reducible first | assumption | exact ob2_at rfl | exact ob2_at (size_alloc1 _ _).symm | refine Ob2.drew ?_ | refine kO2a ?_)); done)); obtain ⟨_, o60, p60, f60⟩ := id OX60)); (try (refine (fun (OX61 : Ob2 v6 (w2.heap.size + 1)) => ?_) ?_; rotate_left; (focus (refine kO2b hb6 ?_; (repeat (with_reducible first | assumption | exact ob2_at rfl | exact ob2_at (size_alloc1 _ _).symm | refine Ob2.drew ?_ | refine kO2a ?_)); done)); obtain ⟨_, o61, p61, f61⟩ := id OX61)); (try (refine (fun (OX62 : Ob2 v6 (v5.heap.size)) => ?_) ?_; rotate_left; (focus (refine kO2b hb6 ?_; (repeat (with_reducible first | assumption | exact ob2_at rfl | exact ob2_at (size_alloc1 _ _).symm | refine Ob2.drew ?_ | refine kO2a ?_)); done)); obtain ⟨_, o62, p62, f62⟩ := id OX62)); (try (refine (fun (OX63 : Ob2 v6 (v5.heap.size + 1)) => ?_) ?_; rotate_left; (focus (refine kO2b hb6 ?_; (repeat (with_reducible first | assumption | exact ob2_at rfl | exact ob2_at (size_alloc1 _ _).symm | refine Ob2.drew ?_ | refine kO2a ?_)); done)); obtain ⟨_, o63, p63, f63⟩ := id OX63)))
        | (go_at_call 69; with_reducible refine (C3.out _ z6 k6 c6 d6 H6.out.1 (by repeat (with_reducible first | exact H6.out.2 | refine Dn.drew ?_ | refine kDa ?_ | refine kDb (by assumption) ?_))).mono ?_; rintro e v7 ⟨r7, rfl, hb7, H7⟩; have hz7 := hb7.size; (try simp at hz7); (try (refine (fun (OX70 : Ob2 v7 (w2.heap.size)) => ?_) ?_; rotate_left; (focus (refine kO2b hb7 ?_; (repeat (with_reducible first | assumption | exact ob2_at rfl | exact ob2_at (size_alloc1 _ _).symm | refine Ob2.drew ?_ | refine kO2a ?_)); done)); obtain ⟨_, o70, p70, f70⟩ := id OX70)); (try (refine (fun (OX71 : Ob2 v7 (w2.heap.size + 1)) => ?_) ?_; rotate_left; (focus (refine kO2b hb7 ?_; (repeat (with_reducible first | assumption | exact ob2_at rfl | exact ob2_at (size_alloc1 _ _).symm | refine Ob2.drew ?_ | refine kO2a ?_)); done)); obtain ⟨_, o71, p71, f71⟩ := id OX71)); (try (refine (fun (OX72 : Ob2 v7 (v5.heap.size)) => ?_) ?_; rotate_left; (focus (refine kO2b hb7 ?_; (repeat (with_reducible first | assumption | exact ob2_at rfl | exact ob2_at (size_alloc1 _ _).symm | refine Ob2.drew ?_ | refine kO2a ?_)); done)); obtain ⟨_, o72, p72, f72⟩ := id OX72)); (try (refine (fun (OX73 : Ob2 v7 (v5.heap.size + 1)) => ?_) ?_; rotate_left; (focus (refine kO2b hb7 ?_; (repeat (with_reducible first | assumption | exact ob2_at rfl | exact ob2_at (size_alloc1 _ _).symm | refine Ob2.drew ?_ | refine kO2a ?_)); done)); obtain ⟨_, o73, p73, f73⟩ := id OX73)); (try (refine (fun (OX74 : Ob2 v7 (v6.heap.size)) => ?_) ?_; rotate_left; (focus (refine kO2b hb7 ?_; (repeat (with_reducible first | assumption | exact ob2_at rfl | exact ob2_at (size_alloc1 _ _).symm | refine Ob2.drew ?_ | refine kO2a ?_)); done)); obtain ⟨_, o74, p74, f74⟩ := id OX74)); (try (refine (fun (OX75 : Ob2 v7 (v6.heap.size + 1)) => ?_) ?_; rotate_left; (focus (refine kO2b hb7 ?_; (repeat (with_reducible first | assumption | exact ob2_at rfl | exact ob2_at (size_alloc1 _ _).symm | refine Ob2.drew ?_ | refine kO2a ?_)); done)); obtain ⟨_, o75, p75, f75⟩ := id OX75)))
        | (go_at_call 68; with_reducible refine (CD.out _ s5 x5 n5 c5 d5 r7 z6 k6 c6 d6 H5.out.1 H6.out.1 (by repeat (with_reducible first | exact H5.out.2.2 | refine kZd ?_ | refine kZa ?_ | refine kZb (by assumption) ?_)) (by repeat (with_reducible first | exact H7.out | refine kZd ?_ | refine kZa ?_ | refine kZb (by assumption) ?_))).mono ?_; rintro e v8 ⟨s8, z8, m8, c8, d8, s9, z9, m9, c9, d9, q8, r8, rfl, hb8, HD⟩; have hz8 := hb8.size; (try simp at hz8); (try (refine (fun (OX80 : Ob2 v8 (w2.heap.size)) => ?_) ?_; rotate_left; (focus (refine kO2b hb8 ?_; (repeat (with_reducible first | assumption | exact ob2_at rfl | exact ob2_at (size_alloc1 _ _).symm | refine Ob2.drew ?_ | refine kO2a ?_)); done)); obtain ⟨_, o80, p80, f80⟩ := id OX80)); (try (refine (fun (OX81 : Ob2 v8 (w2.heap.size + 1)) => ?_) ?_; rotate_left; (focus (refine kO2b hb8 ?_; (repeat (with_reducible first | assumption | exact ob2_at rfl | exact ob2_at (size_alloc1 _ _).symm | refine Ob2.drew ?_ | refine kO2a ?_)); done)); obtain ⟨_, o81, p81, f81⟩ := id OX81)); (try (refine (fun (OX82 : Ob2 v8 (v5.heap.size)) => ?_) ?_; rotate_left; (focus (refine kO2b hb8 ?_; (repeat (with_reducible first | assumption | exact ob2_at rfl | exact ob2_at (size_alloc1 _ _).symm | refine Ob2.drew ?_ | refine kO2a ?_)); done)); obtain ⟨_, o82, p82, f82⟩ := id OX82)); (try (refine (fun (OX83 : Ob2 v8 (v5.heap.size + 1)) => ?_) ?_; rotate_left; (focus (refine kO2b hb8 ?_; (repeat (with_reducible first | assumption | exact ob2_at rfl | exact ob2_at (size_alloc1 _ _).symm | refine Ob2.drew ?_ | refine kO2a ?_)); done)); obtain ⟨_, o83, p83, f83⟩ := id OX83)); (try (refine (fun (OX84 : Ob2 v8 (v6.heap.size)) => ?_) ?_; rotate_left; (focus (refine kO2b hb8 ?_; (repeat (with_reducible first | assumption | exact ob2_at rfl | exact ob2_at (size_alloc1 _ _).symm | refine Ob2.drew ?_ | refine kO2a ?_)); done)); obtain ⟨_, o84, p84, f84⟩ := id OX84)); (try (refine (fun (OX85 : Ob2 v8 (v6.heap.size + 1)) => ?_) ?_; rotate_left; (focus (refine kO2b hb8 ?_; (repeat (with_reducible first | assumption | exact ob2_at rfl | exact ob2_at (size_alloc1 _ _).symm | refine Ob2.drew ?_ | refine kO2a ?_)); done)); obtain ⟨_, o85, p85, f85⟩ := id OX85)); (try (refine (fun (OX86 : Ob2 v8 (v7.heap.size)) => ?_) ?_; rotate_left; (focus (refine kO2b hb8 ?_; (repeat (with_reducible first | assumption | exact ob2_at rfl | exact ob2_at (size_alloc1 _ _).symm | refine Ob2.drew ?_ | refine kO2a ?_)); done)); obtain ⟨_, o86, p86, f86⟩ := id OX86)); (try (refine (fun (OX87 : Ob2 v8 (v7.heap.size + 1)) => ?_) ?_; rotate_left; (focus (refine kO2b hb8 ?_; (repeat (with_reducible first | assumption | exact ob2_at rfl | exact ob2_at (size_alloc1 _ _).symm | refine Ob2.drew ?_ | refine kO2a ?_)); done)); obtain ⟨_, o87, p87, f87⟩ := id OX87))))
    all_goals
      go_wp2_with fail
      go_meet
      have hbl : Below w2.heap.size w2 v8 := (by repeat (with_reducible first | assumption | exact Below.refl _ _ | refine Below.drew ?_ | refine kBa ?_ | refine kBb (by assumption) ?_))
      refine ⟨_, _, _, s8, z8, m8, c8, d8, s9, z9, m9, c9, d9, q8, r8, rfl, rfl, rfl, ?_⟩
      clear H5 H6 H7 C1 C2 C3 CD
      with_reducible first
        | exact vat_aa hbl HD.out
        | exact vat_ab hbl HD.out
        | exact vat_sa hbl HD.out (by first | (with_reducible assumption) | repeat (with_reducible first | exact ob2_at rfl | exact ob2_at (size_alloc1 _ _).symm | refine kO2b hb8 ?_ | refine kO2b hb7 ?_ | refine kO2b hb6 ?_ | refine kO2b hb5 ?_ | refine Ob2.drew ?_ | refine kO2a ?_)) (by omega)
        | exact vat_as hbl HD.out (by first | (with_reducible assumption) | repeat (with_reducible first | exact ob2_at rfl | exact ob2_at (size_alloc1 _ _).symm | refine kO2b hb8 ?_ | refine kO2b hb7 ?_ | refine kO2b hb6 ?_ | refine kO2b hb5 ?_ | refine Ob2.drew ?_ | refine kO2a ?_)) (by omega)
        | exact vat_ss hbl HD.out (by first | (with_reducible assumption) | repeat (with_reducible first | exact ob2_at rfl | exact ob2_at (size_alloc1 _ _).symm | refine kO2b hb8 ?_ | refine kO2b hb7 ?_ | refine kO2b hb6 ?_ | refine kO2b hb5 ?_ | refine Ob2.drew ?_ | refine kO2a ?_)) (by omega) (by first | (with_reducible assumption) | repeat (with_reducible first | exact ob2_at rfl | exact ob2_at (size_alloc1 _ _).symm | refine kO2b hb8 ?_ | refine kO2b hb7 ?_ | refine kO2b hb6 ?_ | refine kO2b hb5 ?_ | refine Ob2.drew ?_ | refine kO2a ?_)) (by omega) (by omega)
  case rest =>
    obtain ⟨w3, b8, b9, s5, z5, m5, c5, d5, s6, z6, m6, c6, d6, q', r, rfl, rfl, rfl, hb8, hb9, hb, hzq, hzr, hfl, hl5, hl6, ho8, ho9⟩ := hcut
    have OB3 := hid (OB2.out.below hb); have HB3 := hid (HB2.out.trans (hb.mono HB2.out.size)); have ZQ := hid hzq
    have HFl : Hid (q' = q.floor) := by
      show q' = q.floor
      rw [rfloor]; exact flr_ediv (by have := q.den_pos; omega) hfl
    clear hb hzq hzr hfl hb9 C1 C2 C3 CD z x0 x1 x2
    obtain ⟨za, a0, a1⟩ := hb8
    go_wp2_with fail
    refine (zToW_c ZQ.out (by omega)).mono ?_
    rintro en w4 ⟨r4, z4, k4, c4, f4, rfl, hb, H4⟩
    have hk4 := H4.out.1
    have HB4 := hid (HB3.out.trans (hb.mono HB3.out.size)); have OB4 := hid (OB3.out.below hb)
    clear hb za a0 a1
    obtain ⟨hz, z0, z1, zf⟩ := OB4.out
    go_wp2
    exact bodyPost_ret (v := .tuple #[.agg #[.bool r4, .slice z4 k4 c4], .int .i64 0]) (by simp [results, Tryz.results24, go_sem, z0, z1]) rfl ⟨r4, z4, k4, c4, f4, rfl, below_st2 HB4.out (by omega), by omega, by rw [← HFl.out]; exact OB4.out.wn H4.out.2⟩
end Go.Proofs.YtndiiknbkjlbiaaGreatDoor
namespace Go.Proofs.YtndiiknbkjlbiaaGreatDoor
open Go.RowKit

/-- What Cmp answers. -/
def CG (c er : Int) (p : Bool) (a b : Rat) : Prop := p = true ∧ er = 0 ∧ ROrd c a b ∨ p = false ∧ er = 3 ∧ c = 0
theorem rord_one {c d : Int} {a b : Rat} (h : ROrd c a b) (k : ROrd d a b) : c = d := by
  rcases h with ⟨h1, h2⟩ | ⟨h1, h2⟩ | ⟨h1, h2⟩ <;> rcases k with ⟨k1, k2⟩ | ⟨k1, k2⟩ | ⟨k1, k2⟩ <;> first | omega | (exfalso; grind)
theorem cg_one {c d e1 e2 : Int} {p : Bool} {a b : Rat} (h : CG c e1 p a b) (k : CG d e2 p a b) : d = c ∧ e2 = e1 := by
  rcases h with ⟨h1, h2, h3⟩ | ⟨h1, h2, h3⟩ <;> rcases k with ⟨k1, k2, k3⟩ | ⟨k1, k2, k3⟩
  · exact ⟨rord_one k3 h3, by omega⟩
  · rw [h1] at k1; cases k1
  · rw [h1] at k1; cases k1
  · omega
theorem sg_one {c d e1 e2 v : Int} {p : Bool} (h : SG c e1 p v) (k : SG d e2 p v) : d = c ∧ e2 = e1 := by
  rcases h with ⟨h1, h2, h3⟩ | ⟨h1, h2, h3⟩ <;> rcases k with ⟨k1, k2, k3⟩ | ⟨k1, k2, k3⟩
  · unfold Ord at h3 k3; omega
  · rw [h1] at k1; cases k1
  · rw [h1] at k1; cases k1
  · omega
set_option maxRecDepth 100000 in
set_option maxHeartbeats 16000000 in
theorem ratOrders_c (sa : Bool) (xa : Option Addr) (na ca : Nat) (fa : Nat → Int) (ya : Option Addr) (ma da : Nat) (ga : Nat → Int) (sb : Bool) (xb : Option Addr) (nb cb : Nat) (fb : Nat → Int) (yb : Option Addr) (mb db : Nat) (gb : Nat → Int) (w : World) (ha : Rw w xa na ca fa ya ma da ga) (hb : Rw w xb nb cb fb yb mb db gb) (htab : Tab w) :
    Calls Tryz.prog 4 #[.agg #[.bool sa, .slice xa na ca, .slice ya ma da], .agg #[.bool sb, .slice xb nb cb, .slice yb mb db]] w fun e w' => e = .returned (.bool true) ∧ Below w.heap.size w w' := by
  have HTab := hid htab; have HA := hid ha; have HB := hid hb
  have q1 := ha.cx; have q2 := ha.cy; have q3 := hb.cx; have q4 := hb.cy
  clear ha hb htab
  go_enter Tryz.func4, Tryz.ntmps4
  go_wp2_with fail
  refine (rAwake_c _ (HTab.out.below (below_alloc (below_alloc (Below.refl w.heap.size w) _) _) HTab.out.lt)).mono ?_
  rintro e w1 ⟨rfl, hbel⟩
  obtain ⟨ba, bb, hw⟩ := two_new hbel
  have BA1 := hid ba; have BB1 := hid bb; have HW1 := hid hw
  clear hbel ba bb hw
  obtain ⟨za, a0, a1, a2⟩ := BA1.out
  obtain ⟨zb, b0, b1, b2⟩ := BB1.out
  go_wp2_with fail
  refine (rlight2_c sa xa ya na ca ma da sb xb yb nb cb mb db _ (by omega) (by omega) (by omega) (by omega)).mono ?_
  rintro e w2 ⟨rfl, hb⟩
  clear za a0 a1 a2 zb b0 b1 b2
  have BA2 := hid (BA1.out.below hb); have BB2 := hid (BB1.out.below hb); have HW2 := hid (HW1.out.trans (hb.mono HW1.out.size))
  clear BA1 BB1 HW1 hb
  cases hl : (lg na ma 20 && lg nb mb 20)
  · go_wp2
    go_ret
    exact ⟨rfl, HW2.out⟩
  have hl1 : na ≤ 20 ∧ ma ≤ 20 ∧ nb ≤ 20 ∧ mb ≤ 20 := by
    simp only [lg, Bool.and_eq_true, decide_eq_true_eq] at hl
    exact ⟨hl.1.1, hl.1.2, hl.2.1, hl.2.2⟩
  obtain ⟨l1, l2, l3, l4⟩ := hl1
  clear hl
  obtain ⟨pa, hpa⟩ : ∃ p, rfB sa fa na ga ma = p := ⟨_, rfl⟩
  obtain ⟨pb, hpb⟩ : ∃ p, rfB sb fb nb gb mb = p := ⟨_, rfl⟩
  obtain ⟨qa, hqa⟩ : ∃ q, pa = true → Rn 100 w2 sa xa na ca fa ya ma da ga q := by
    cases pa
    · exact ⟨0, fun h => by cases h⟩
    · obtain ⟨q, hq⟩ := (HA.out.below HW2.out).rn hpa (L := 100) (by omega) (by omega)
      exact ⟨q, fun _ => hq⟩
  obtain ⟨qb, hqb⟩ : ∃ q, pb = true → Rn 100 w2 sb xb nb cb fb yb mb db gb q := by
    cases pb
    · exact ⟨0, fun h => by cases h⟩
    · obtain ⟨q, hq⟩ := (HB.out.below HW2.out).rn hpb (L := 100) (by omega) (by omega)
      exact ⟨q, fun _ => hq⟩
  have HPA := hid hpa; have HPB := hid hpb; have HQA := hid hqa; have HQB := hid hqb
  obtain ⟨fv, hfv⟩ : ∃ v : Int, (if pa = true then qa.floor else 0) = v := ⟨_, rfl⟩
  obtain ⟨er, her⟩ : ∃ v : Int, (if pa = true then (0 : Int) else 3) = v := ⟨_, rfl⟩
  have HFV := hid hfv; have HER := hid her
  clear hpa hpb hqa hqb hfv her
  have RA2 := hid (HA.out.below HW2.out); have RB2 := hid (HB.out.below HW2.out)
  have TA : Hid (∀ W, Below w2.heap.size w2 W → Calls Tryz.prog 13 #[.agg #[.bool sa, .slice xa na ca, .slice ya ma da]] W fun e w' => ∃ z c' z2 c2, e = .returned (.agg #[.bool sa, .slice z na c', .slice z2 ma c2]) ∧ Below W.heap.size W w' ∧ Hid (Rw w' z na c' fa z2 ma c2 ga)) := fun W hW => qTwin_c (RA2.out.below hW) (by omega) (by omega)
  have TB : Hid (∀ W, Below w2.heap.size w2 W → Calls Tryz.prog 13 #[.agg #[.bool sb, .slice xb nb cb, .slice yb mb db]] W fun e w' => ∃ z c' z2 c2, e = .returned (.agg #[.bool sb, .slice z nb c', .slice z2 mb c2]) ∧ Below W.heap.size W w' ∧ Hid (Rw w' z nb c' fb z2 mb c2 gb)) := fun W hW => qTwin_c (RB2.out.below hW) (by omega) (by omega)
  have CC : Hid (∀ (W : World) (x : Option Addr) (c : Nat) (y : Option Addr) (d : Nat) (x' : Option Addr) (c' : Nat) (y' : Option Addr) (d' : Nat), Rw W x na c fa y ma d ga → Rw W x' nb c' fb y' mb d' gb → Calls Tryz.prog 19 #[.agg #[.bool sa, .slice x na c, .slice y ma d], .agg #[.bool sb, .slice x' nb c', .slice y' mb d']] W fun e w' => ∃ c er, e = .returned (.tuple #[.int .i64 c, .int .i64 er]) ∧ Below W.heap.size W w' ∧ Hid (CG c er (pa && pb) qa qb)) := fun W x c y d x' c' y' d' h1 h2 => by
    cases hp : (pa && pb)
    · exact (rCmpErr_c h1 h2 (by omega) (by omega) (by omega) (by omega) (by rw [HPA.out, HPB.out]; exact hp)).mono (fun _ _ ⟨k1, k2⟩ => ⟨0, 3, k1, k2, .inr ⟨rfl, rfl, rfl⟩⟩)
    · have hpp : pa = true ∧ pb = true := by simpa using hp
      exact (rCmp_n ((HQA.out hpp.1).moved h1) ((HQB.out hpp.2).moved h2) (by omega)).mono (fun _ _ ⟨c, k1, k2, k3⟩ => ⟨c, 0, k1, k2, .inl ⟨rfl, rfl, k3⟩⟩)
  have DC : Hid (∀ W, Below w2.heap.size w2 W → Calls Tryz.prog 20 #[.agg #[.bool sa, .slice xa na ca, .slice ya ma da], .agg #[.bool sb, .slice xb nb cb, .slice yb mb db]] W fun e w' => ∃ c er, e = .returned (.tuple #[.int .i64 c, .int .i64 er]) ∧ Below W.heap.size W w' ∧ Hid (CG c er (pa && pb) qa qb)) := fun W hW => by
    have h1 := RA2.out.below hW; have h2 := RB2.out.below hW
    cases hp : (pa && pb)
    · exact (docCmpErr_c h1 h2 (by omega) (by omega) (by omega) (by omega) (by rw [HPA.out, HPB.out]; exact hp)).mono (fun _ _ ⟨k1, k2⟩ => ⟨0, 3, k1, k2, .inr ⟨rfl, rfl, rfl⟩⟩)
    · have hpp : pa = true ∧ pb = true := by simpa using hp
      exact (docCmpOk_c h1 h2 (by omega) (by omega) (by omega) (by omega) (((HQA.out hpp.1).below hW).mono (by omega)) (((HQB.out hpp.2).below hW).mono (by omega)) (by omega)).mono (fun _ _ ⟨c, k1, k2, k3⟩ => ⟨c, 0, k1, k2, .inl ⟨rfl, rfl, k3⟩⟩)
  have FR : Hid (∀ (W : World) (x : Option Addr) (c : Nat) (y : Option Addr) (d : Nat), Rw W x na c fa y ma d ga → Calls Tryz.prog 23 #[.agg #[.bool sa, .slice x na c, .slice y ma d]] W fun e w' => ∃ s z k c' f', e = .returned (.tuple #[.agg #[.bool s, .slice z k c'], .int .i64 er]) ∧ Below W.heap.size W w' ∧ Hid (k ≤ 8192 ∧ Wn w' s z k c' f' fv)) := fun W x c y d h1 => by
    cases hp : pa
    · rw [hp] at HFV HER
      exact (rFloorErr_c h1 (by omega) (by omega) (by rw [HPA.out]; exact hp)).mono (fun _ w' ⟨k1, k2⟩ => ⟨false, none, 0, 0, fun _ => 0, by rw [k1, ← HER.out]; rfl, k2, by omega, by rw [← HFV.out]; exact wn_none w' 0⟩)
    · have hq := (HQA.out hp).moved h1
      rw [hp] at HFV HER
      exact (rFloor_n hq (by omega)).mono (fun _ _ ⟨s, z, k, c', f', k1, k2, k3, k4⟩ => ⟨s, z, k, c', f', by rw [k1, ← HER.out]; rfl, k2, by omega, by rw [← HFV.out]; exact k4⟩)
  have DF : Hid (∀ W, Below w2.heap.size w2 W → Calls Tryz.prog 24 #[.agg #[.bool sa, .slice xa na ca, .slice ya ma da]] W fun e w' => ∃ s z k c' f', e = .returned (.tuple #[.agg #[.bool s, .slice z k c'], .int .i64 er]) ∧ Below W.heap.size W w' ∧ Hid (k ≤ 8192 ∧ Wn w' s z k c' f' fv)) := fun W hW => by
    have h1 := RA2.out.below hW
    cases hp : pa
    · rw [hp] at HFV HER
      exact (docFloorErr_c h1 (by omega) (by omega) (by rw [HPA.out]; exact hp)).mono (fun _ w' ⟨k1, k2⟩ => ⟨false, none, 0, 0, fun _ => 0, by rw [k1, ← HER.out]; rfl, k2, by omega, by rw [← HFV.out]; exact wn_none w' 0⟩)
    · have hq := (HQA.out hp).moved h1
      rw [hp] at HFV HER
      exact (docFloorOk_c h1 hq).mono (fun _ _ ⟨s, z, k, c', f', k1, k2, k3, k4⟩ => ⟨s, z, k, c', f', by rw [k1, ← HER.out]; rfl, k2, by omega, by rw [← HFV.out]; exact k4⟩)
  obtain ⟨za, a0, a1, a2⟩ := BA2.out
  obtain ⟨zb, b0, b1, b2⟩ := BB2.out
  go_wp2_with fail
  go_region_held3 (fun w' => w'.cell? ⟨w.heap.size, 0, none⟩ = some (.bool sa) ∧ w'.cell? ⟨w.heap.size, 1, none⟩ = some (.slice xa na ca) ∧ w'.cell? ⟨w.heap.size, 2, none⟩ = some (.slice ya ma da) ∧ w'.cell? ⟨w.heap.size + 1, 0, none⟩ = some (.bool sb) ∧ w'.cell? ⟨w.heap.size + 1, 1, none⟩ = some (.slice xb nb cb) ∧ w'.cell? ⟨w.heap.size + 1, 2, none⟩ = some (.slice yb mb db))
    (refine ⟨?_, ?_, ?_, ?_, ?_, ?_⟩ <;> repeat (with_reducible first | assumption | refine kCd ?_ | refine kCb (by assumption) ?_))
    (first
      | (go_at_call 13; with_reducible refine (TA.out _ (by repeat (with_reducible first | assumption | exact Below.refl _ _ | refine Below.drew ?_ | refine kBb (by assumption) ?_))).mono ?_; rintro e v5 ⟨x5, c5, y5, d5, rfl, hb5, H5⟩)
      | (go_at_call 13; with_reducible refine (TB.out _ (by repeat (with_reducible first | assumption | exact Below.refl _ _ | refine Below.drew ?_ | refine kBb (by assumption) ?_))).mono ?_; rintro e v6 ⟨x6, c6, y6, d6, rfl, hb6, H6⟩)
      | (go_at_call 19; with_reducible refine (CC.out _ x5 c5 y5 d5 x6 c6 y6 d6 (by repeat (with_reducible first | exact H5.out | refine kRwd ?_ | refine kRwb (by assumption) ?_)) (by repeat (with_reducible first | exact H6.out | refine kRwd ?_ | refine kRwb (by assumption) ?_))).mono ?_; rintro e v7 ⟨cc, ec, rfl, hb7, H7⟩))
  all_goals
    have hb : Below w2.heap.size w2 v7 := (by repeat (with_reducible first | assumption | exact Below.refl _ _ | refine Below.drew ?_ | refine kBb (by assumption) ?_))
    have HB3 := hid hb
    clear hb hb5 hb6 hb7 H5 H6 za a0 a1 a2 zb b0 b1 b2
    obtain ⟨za, a0, a1, a2⟩ := BA2.out.below HB3.out
    obtain ⟨zb, b0, b1, b2⟩ := BB2.out.below HB3.out
    go_wp2_with fail
    refine (DC.out _ HB3.out).mono ?_
    rintro e w4 ⟨cc', ec', rfl, hb, HC4⟩
    obtain ⟨e1, e2⟩ := cg_one H7.out HC4.out
    subst e1
    subst e2
    have hcn : (cc' != cc') = false := by simp
    have hen : (ec' != ec') = false := by simp
    have HB4 := hid (HB3.out.trans (hb.mono HB3.out.size))
    clear hb za a0 a1 a2 zb b0 b1 b2 HC4 H7
    obtain ⟨za, a0, a1, a2⟩ := BA2.out.below HB4.out
    go_wp2_with fail
    refine (TA.out _ HB4.out).mono ?_
    rintro e w5 ⟨x5, c5, y5, d5, rfl, hb, H5⟩
    have HB5 := hid (HB4.out.trans (hb.mono HB4.out.size))
    clear hb za a0 a1 a2
    go_wp2_with fail
    refine (rSign_g (s := sa) H5.out (by omega) (by omega)).mono ?_
    rintro e w6 ⟨sc, ec6, rfl, hb, hs6⟩
    have HB6 := hid (HB5.out.trans (hb.mono HB5.out.size)); have HS6 := hid hs6
    clear hb hs6 H5
    obtain ⟨za, a0, a1, a2⟩ := BA2.out.below HB6.out
    go_wp2_with fail
    refine (docSign_g (s := sa) (RA2.out.below HB6.out) (by omega) (by omega)).mono ?_
    rintro e w7 ⟨sc', ec7, rfl, hb, hs7⟩
    obtain ⟨e1, e2⟩ := sg_one HS6.out hs7
    subst e1
    subst e2
    have hcn2 : (sc' != sc') = false := by simp
    have hen2 : (ec7 != ec7) = false := by simp
    have HB7 := hid (HB6.out.trans (hb.mono HB6.out.size))
    clear hb hs7 HS6 za a0 a1 a2
    obtain ⟨za, a0, a1, a2⟩ := BA2.out.below HB7.out
    go_wp2_with fail
    refine (TA.out _ HB7.out).mono ?_
    rintro e w8 ⟨x8, c8, y8, d8, rfl, hb, H8⟩
    have HB8 := hid (HB7.out.trans (hb.mono HB7.out.size))
    clear hb za a0 a1 a2
    go_wp2_with fail
    refine (FR.out _ x8 c8 y8 d8 H8.out).mono ?_
    rintro e w9 ⟨s9, z9, k9, c9, f9, rfl, hb, H9⟩
    have HB9 := hid (below_alloc (HB8.out.trans (hb.mono HB8.out.size)) (.cells #[.bool s9, .slice z9 k9 c9] 45)); have W9 := hid (H9.out.2.alloc (.cells #[.bool s9, .slice z9 k9 c9] 45)); have hk9 := H9.out.1
    have B9 : Hid (Bx (w9.alloc (.cells #[.bool s9, .slice z9 k9 c9] 45)) w9.heap.size s9 z9 k9 c9) := ⟨by simp, kN0, kN1⟩
    clear hb H8 H9
    obtain ⟨za, a0, a1, a2⟩ := BA2.out.below HB9.out
    obtain ⟨z9', p0, p1⟩ := B9.out
    go_wp2_with fail
    generalize w9.alloc (.cells #[.bool s9, .slice z9 k9 c9] 45) = w10 at *
    generalize w9.heap.size = b9 at *
    refine (DF.out _ HB9.out).mono ?_
    rintro e w11 ⟨s11, z11, k11, c11, f11, rfl, hb, H11⟩
    have HB11 := hid (HB9.out.trans (hb.mono HB9.out.size)); have W11 := hid (W9.out.below hb); have B11 := hid (B9.out.below hb); have hk11 := H11.out.1
    clear hb za a0 a1 a2 z9' p0 p1
    obtain ⟨z9', p0, p1⟩ := B11.out
    go_wp2_with fail
    refine (wSame_true s9 s11 z9 z11 k9 k11 c9 c11 f9 f11 _ (by omega) (by omega) (W11.out.alloc _).rd (H11.out.2.alloc _).rd W11.out.lm H11.out.2.lm W11.out.wf H11.out.2.wf (W11.out.val.trans H11.out.2.val.symm)).mono ?_
    rintro e w12 ⟨rfl, hb⟩
    have HB12 := hid ((below_alloc HB11.out _).trans (hb.mono (below_alloc HB11.out _).size))
    have hee : (er == er) = true := by simp
    clear hb z9' p0 p1
    go_wp2
    go_ret
    exact ⟨rfl, HW2.out.trans (HB12.out.mono HW2.out.size)⟩
end Go.Proofs.YtndiiknbkjlbiaaGreatDoor

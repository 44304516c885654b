/-
  The walk of the statement RatKeeps.
-/
import Derived.Test.YtlpmfmphglgocaaGreatDoorZ9
import Derived.Test.YtlpmfmphglgocaaGreatDoorZ8
import Derived.BigQuiet
import Derived.BigRegion
import Derived.Deep.RegionHeld3
namespace Go.Proofs.YtlpmfmphglgocaaGreatDoor
open Go.RowKit

theorem kR9a {w : World} {x : Option Addr} {n : Nat} {f : Nat → Int} {o : Obj} (h : Rd .u64 w x n f) : Rd .u64 (w.alloc o) x n f := h.alloc o
theorem kR9b {w w' : World} {x : Option Addr} {n : Nat} {f : Nat → Int} (hb : Below w.heap.size w w') (h : Rd .u64 w x n f) : Rd .u64 w' x n f := h.below hb (Nat.le_refl _)
theorem kR9d {w : World} {x : Option Addr} {n : Nat} {f : Nat → Int} (h : Rd .u64 w x n f) : Rd .u64 w.drew x n f := h
theorem Ob.rw {w B u0 u1 u2 x n c f y m d g} (h : Ob w B) (k : Rw w x n c f y m d g) : Rw (((w.setCell ⟨B, 0, none⟩ u0).setCell ⟨B, 1, none⟩ u1).setCell ⟨B, 2, none⟩ u2) x n c f y m d g := ⟨h.rd k.rx, k.lx, k.cx, k.nx, h.rd k.ry, k.ly, k.cy, k.ny⟩
/-- Two boxes, and a number that can be read. -/
structure TAt (w1 wx : World) (b7 b8 : Nat) (u0 u1 u2 t0 t1 t2 : Value) (x : Option Addr) (n c : Nat) (f : Nat → Int) (y : Option Addr) (m d : Nat) (g : Nat → Int) : Prop where
  bx : Bx3 wx b7 u0 u1 u2
  bz : Bx3 wx b8 t0 t1 t2
  bel : Below w1.heap.size w1 wx
  rw : Rw wx x n c f y m d g
theorem tat_aa {w1 v : World} {u0 u1 u2 t0 t1 t2 : Value} {x : Option Addr} {n c : Nat} {f : Nat → Int} {y : Option Addr} {m d : Nat} {g : Nat → Int} {t : TypeId} (hb : Below w1.heap.size w1 v) (h : Rw v x n c f y m d g) : TAt w1 ((v.alloc (.cells #[u0, u1, u2] t)).alloc (.cells #[t0, t1, t2] t)) v.heap.size (v.heap.size + 1) u0 u1 u2 t0 t1 t2 x n c f y m d g := ⟨(bx3_at _ _ _ _ _).alloc _, bx3_next _ _ _ _ _ _, below_alloc (below_alloc hb _) _, (h.alloc _).alloc _⟩
theorem tat_ab {w1 v : World} {u0 u1 u2 t0 t1 t2 : Value} {x : Option Addr} {n c : Nat} {f : Nat → Int} {y : Option Addr} {m d : Nat} {g : Nat → Int} {t : TypeId} (hb : Below w1.heap.size w1 v) (h : Rw v x n c f y m d g) : TAt w1 ((v.alloc (.cells #[t0, t1, t2] t)).alloc (.cells #[u0, u1, u2] t)) (v.heap.size + 1) v.heap.size u0 u1 u2 t0 t1 t2 x n c f y m d g := ⟨bx3_next _ _ _ _ _ _, (bx3_at _ _ _ _ _).alloc _, below_alloc (below_alloc hb _) _, (h.alloc _).alloc _⟩
theorem tat_sa {w1 v : World} {u0 u1 u2 t0 t1 t2 : Value} {x : Option Addr} {n c : Nat} {f : Nat → Int} {y : Option Addr} {m d : Nat} {g : Nat → Int} {b8 : Nat} {t : TypeId} (hb : Below w1.heap.size w1 v) (h : Rw v x n c f y m d g) (h8 : Ob v b8) (o8 : w1.heap.size ≤ b8) : TAt w1 ((((v.setCell ⟨b8, 0, none⟩ u0).setCell ⟨b8, 1, none⟩ u1).setCell ⟨b8, 2, none⟩ u2).alloc (.cells #[t0, t1, t2] t)) b8 v.heap.size u0 u1 u2 t0 t1 t2 x n c f y m d g := ⟨(h8.put _ _ _).alloc _, bx3_st _ _ _ _ _ _ _ _ _, below_alloc (below_st hb o8) _, (h8.rw h).alloc _⟩
theorem tat_as {w1 v : World} {u0 u1 u2 t0 t1 t2 : Value} {x : Option Addr} {n c : Nat} {f : Nat → Int} {y : Option Addr} {m d : Nat} {g : Nat → Int} {b9 : Nat} {t : TypeId} (hb : Below w1.heap.size w1 v) (h : Rw v x n c f y m d g) (h9 : Ob v b9) (o9 : w1.heap.size ≤ b9) : TAt w1 ((((v.setCell ⟨b9, 0, none⟩ t0).setCell ⟨b9, 1, none⟩ t1).setCell ⟨b9, 2, none⟩ t2).alloc (.cells #[u0, u1, u2] t)) v.heap.size b9 u0 u1 u2 t0 t1 t2 x n c f y m d g := ⟨bx3_st _ _ _ _ _ _ _ _ _, (h9.put _ _ _).alloc _, below_alloc (below_st hb o9) _, (h9.rw h).alloc _⟩
theorem tat_ss {w1 v : World} {u0 u1 u2 t0 t1 t2 : Value} {x : Option Addr} {n c : Nat} {f : Nat → Int} {y : Option Addr} {m d : Nat} {g : Nat → Int} {b8 b9 : Nat} (hb : Below w1.heap.size w1 v) (h : Rw v x n c f y m d g) (h8 : Ob v b8) (o8 : w1.heap.size ≤ b8) (h9 : Ob v b9) (o9 : w1.heap.size ≤ b9) (hne : b9 ≠ b8) : TAt w1 ((((((v.setCell ⟨b8, 0, none⟩ u0).setCell ⟨b8, 1, none⟩ u1).setCell ⟨b8, 2, none⟩ u2).setCell ⟨b9, 0, none⟩ t0).setCell ⟨b9, 1, none⟩ t1).setCell ⟨b9, 2, none⟩ t2) b8 b9 u0 u1 u2 t0 t1 t2 x n c f y m d g := ⟨(h8.put _ _ _).far hne, (h9.far hne.symm).put _ _ _, below_st (below_st hb o8) o9, (h9.far hne.symm).rw (h8.rw h)⟩
theorem TAt.drew {w1 wx b7 b8 u0 u1 u2 t0 t1 t2 x n c f y m d g} (h : TAt w1 wx b7 b8 u0 u1 u2 t0 t1 t2 x n c f y m d g) : TAt w1 wx.drew b7 b8 u0 u1 u2 t0 t1 t2 x n c f y m d g := ⟨⟨h.bx.z, h.bx.x0, h.bx.x1, h.bx.x2⟩, ⟨h.bz.z, h.bz.x0, h.bz.x1, h.bz.x2⟩, Below.drew h.bel, kRwd h.rw⟩
theorem kRwa9 {w x n c f y m d g} {o : Obj} (h : Rw w x n c f y m d g) : Rw (w.alloc o) x n c f y m d g := h.alloc o
theorem Lsb.bel9 {k e w w' l} (h : Lsb k e w l) (hb : Below w.heap.size w w') : Lsb k e w' l := Own.below h hb
theorem KG.alloc9 {E pos O N s1 s2 w5 w g1 R L} {ob : Obj} (h : KG E pos O N s1 s2 w5 w g1 R L) : KG E pos O N s1 s2 w5 (w.alloc ob) g1 R L := h.alloc ob
/-- The marks behind the lists that were spoiled. -/
theorem marks9 {w : World} {g : Nat} {S : Nat → Bool} {L : Nat → Ls} (h : StR w g S L) (hs : ∀ j, j < 16 → Sp9 j (L j)) {i : Nat} (hi : i < 8) : ∃ ka pa qa kb pb qb, ka + 1 ≤ 4096 ∧ kb + 1 ≤ 4096 ∧ w.cell? ⟨g, i * 3 + 1, none⟩ = some (.slice (some ⟨pa, 0, none⟩) (ka + 1) qa) ∧ w.cell? ⟨pa, ka, none⟩ = some (.int .u64 (9000 + 2 * (i : Int))) ∧ w.cell? ⟨g, i * 3 + 2, none⟩ = some (.slice (some ⟨pb, 0, none⟩) (kb + 1) qb) ∧ w.cell? ⟨pb, kb, none⟩ = some (.int .u64 (9001 + 2 * (i : Int))) := by
  have one : ∀ j, j < 16 → ∃ k p q, k + 1 ≤ 4096 ∧ ((L j).p = some ⟨p, 0, none⟩ ∧ (L j).n = k + 1 ∧ (L j).c = q) ∧ w.cell? ⟨p, k, none⟩ = some (.int .u64 (9000 + (j : Int))) := fun j hj => by
    have o1 := h.own j hj; have hsp := hs j hj
    obtain ⟨p1, n1, c1, f1, e⟩ : ∃ a b c d, L j = ⟨a, b, c, d⟩ := ⟨_, _, _, _, rfl⟩
    rw [e] at o1 hsp ⊢
    obtain ⟨r1, r2, r3⟩ := hsp
    obtain ⟨k, rfl⟩ : ∃ k, n1 = k + 1 := ⟨n1 - 1, by have : 0 < n1 := r1; omega⟩
    obtain ⟨gi, og, hpe⟩ := o1.rd.at (show 0 < k + 1 by omega)
    have hpe2 : p1 = some ⟨gi, og, none⟩ := hpe
    subst hpe2
    obtain ⟨gi3, e2, _⟩ := own_at o1
    cases e2
    have hcl := o1.rd.cell (j := k) (Nat.lt_succ_self k)
    rw [Nat.zero_add, show (Ls.mk (some ⟨gi, 0, none⟩) (k + 1) c1 f1).f k = 9000 + (j : Int) from r3] at hcl
    exact ⟨k, gi, c1, r2, ⟨rfl, rfl, rfl⟩, hcl⟩
  obtain ⟨_, f1, f2⟩ := fam_cells9 h.fam hi
  obtain ⟨ka, pa, qa, a1, ⟨a2, a3, a4⟩, a5⟩ := one (2 * i) (by omega)
  obtain ⟨kb, pb, qb, b1, ⟨b2, b3, b4⟩, b5⟩ := one (2 * i + 1) (by omega)
  rw [a2, a3, a4] at f1; rw [b2, b3, b4] at f2
  rw [show ((2 * i : Nat) : Int) = 2 * (i : Int) by omega] at a5
  rw [show (9000 : Int) + ((2 * i + 1 : Nat) : Int) = 9001 + 2 * (i : Int) by omega] at b5
  exact ⟨ka, pa, qa, kb, pb, qb, a1, b1, f1, a5, f2, b5⟩
set_option maxRecDepth 100000 in
set_option maxHeartbeats 16000000 in
theorem ratKeeps_c (a b : Nm) (w : World) (ha : Rw w a.x a.n a.c a.f a.y a.m a.d a.g) (hb : Rw w b.x b.n b.c b.f b.y b.m b.d b.g) (htab : Tab w) :
    Calls Tryz.prog 3 #[.agg #[.bool a.s, .slice a.x a.n a.c, .slice a.y a.m a.d], .agg #[.bool b.s, .slice b.x b.n b.c, .slice b.y b.m b.d]] w fun e w' => e = .returned (.bool true) ∧ Below w.heap.size w w' := by
  have RA := hid ha; have RB := hid hb; have HTab := hid htab
  have cxa := ha.cx; have cya := ha.cy; have cxb := hb.cx; have cyb := hb.cy
  clear ha hb htab
  go_enter Tryz.func3, Tryz.ntmps3
  go_wp2_with fail
  refine (rAwake_c _ (HTab.out.below (below_alloc (below_alloc (Below.refl w.heap.size w) _) _) HTab.out.lt)).mono ?_
  rintro e w1 ⟨rfl, hb⟩
  have hw : Below w.heap.size w w1 := (below_alloc (below_alloc (Below.refl w.heap.size w) _) _).trans (hb.mono (by simp; omega))
  have BA1 : Hid (Bx3 w1 w.heap.size (.bool a.s) (.slice a.x a.n a.c) (.slice a.y a.m a.d)) := ((bx3_at w (.bool a.s) (.slice a.x a.n a.c) (.slice a.y a.m a.d) 24).alloc _).below hb
  have BB1 : Hid (Bx3 w1 (w.heap.size + 1) (.bool b.s) (.slice b.x b.n b.c) (.slice b.y b.m b.d)) := by
    have := (bx3_at (w.alloc (.cells #[.bool a.s, .slice a.x a.n a.c, .slice a.y a.m a.d] 24)) (.bool b.s) (.slice b.x b.n b.c) (.slice b.y b.m b.d) 24).below hb
    rw [size_alloc1] at this
    exact this
  have HW1 := hid hw
  clear hb hw
  obtain ⟨za, a0, a1, a2⟩ := BA1.out
  obtain ⟨zb, b0, b1, b2⟩ := BB1.out
  go_wp2_with fail
  refine (rlight2_c a.s a.x a.y a.n a.c a.m a.d b.s b.x b.y b.n b.c b.m b.d _ (by omega) (by omega) (by omega) (by omega)).mono ?_
  rintro e w2 ⟨rfl, hb⟩
  have BA2 := hid (BA1.out.below hb); have BB2 := hid (BB1.out.below hb); have HW2 := hid (HW1.out.trans (hb.mono HW1.out.size))
  clear hb BA1 BB1 HW1 za a0 a1 a2 zb b0 b1 b2
  cases hlg : (lg a.n a.m 20 && lg b.n b.m 20)
  · go_wp2
    go_ret
    exact ⟨rfl, HW2.out⟩
  have hlen : (a.n ≤ 20 ∧ a.m ≤ 20) ∧ b.n ≤ 20 ∧ b.m ≤ 20 := by simpa [lg] using hlg
  obtain ⟨⟨hna, hma⟩, hnb, hmb⟩ := hlen
  clear hlg
  have RA2 := hid (RA.out.below HW2.out); have RB2 := hid (RB.out.below HW2.out)
  obtain ⟨za, a0, a1, a2⟩ := BA2.out
  obtain ⟨zb, b0, b1, b2⟩ := BB2.out
  have CT : Hid (∀ W, Below w2.heap.size w2 W → Calls Tryz.prog 7 #[.agg #[.bool a.s, .slice a.x a.n a.c, .slice a.y a.m a.d]] W fun e w' => ∃ x c y d, e = .returned (.agg #[.bool a.s, .slice x a.n c, .slice y a.m d]) ∧ Below W.heap.size W w' ∧ Hid (Own .u64 28 w' w2.heap.size (.slice x a.n c) a.n a.f ∧ Own .u64 28 w' w2.heap.size (.slice y a.m d) a.m a.g) ∧ Hid ((∀ q, x = some q → W.heap.size ≤ q.block ∧ q.block < w'.heap.size) ∧ (∀ q, y = some q → W.heap.size ≤ q.block ∧ q.block < w'.heap.size))) := fun W hW =>
    (qTwin_o (RA2.out.below hW) (by omega) (by omega)).mono (fun e w' ⟨x, c, y, d, h1, h2, h3⟩ => ⟨x, c, y, d, h1, h2, ⟨h3.out.2.1.base hW.size, h3.out.2.2.base hW.size⟩, fun q hq => h3.out.2.1.slice.2.2.2.2 q hq, fun q hq => h3.out.2.2.slice.2.2.2.2 q hq⟩)
  have hf1 : ∀ (W : World) (r : Bool) (x y : Option Addr) (k c l d : Nat), (Instr.field 24 (.agg #[.bool r, .slice x k c, .slice y l d]) 1).run Tryz.prog W = .ok (.slice x k c) W := by intros; kernel_rfl
  have hf2 : ∀ (W : World) (r : Bool) (x y : Option Addr) (k c l d : Nat), (Instr.field 24 (.agg #[.bool r, .slice x k c, .slice y l d]) 2).run Tryz.prog W = .ok (.slice y l d) W := by intros; kernel_rfl
  go_upto_region 5 with fail
  go_cut [5, 6] from 20 to 29 (fun u v wx => ∃ (wy : World) (gA cA gD cD : Nat), wy = wx ∧ u = .slice (some ⟨gA, 0, none⟩) (a.n + 1) cA ∧ v = .slice (some ⟨gD, 0, none⟩) (a.m + 1) cD ∧ Below w2.heap.size w2 wy ∧ Hid (Own .u64 28 wy w2.heap.size (.slice (some ⟨gA, 0, none⟩) (a.n + 1) cA) (a.n + 1) (cat a.f a.n (fun _ => 71))) ∧ Hid (Own .u64 28 wy w2.heap.size (.slice (some ⟨gD, 0, none⟩) (a.m + 1) cD) (a.m + 1) (cat a.g a.m (fun _ => 72))))
  case first =>
    go_region_held3 (fun w' => w'.cell? ⟨w.heap.size, 0, none⟩ = some (.bool a.s) ∧ w'.cell? ⟨w.heap.size, 1, none⟩ = some (.slice a.x a.n a.c) ∧ w'.cell? ⟨w.heap.size, 2, none⟩ = some (.slice a.y a.m a.d))
      (refine ⟨?_, ?_, ?_⟩ <;> repeat (with_reducible first | assumption | refine kCd ?_ | refine kCa ?_ | refine kCb (by assumption) ?_))
      (first
        | (have h9 := HOa.out; clear h9; go_at_call 7; with_reducible refine (CT.out _ (by repeat (with_reducible first | assumption | exact Below.refl _ _ | refine Below.drew ?_ | refine kBa ?_ | refine kBb (by assumption) ?_))).mono ?_; rintro e w6 ⟨xb, cxb', yb, dyb, rfl, hb6, HOb, hlb⟩)
        | (go_at_call 7; with_reducible refine (CT.out _ (by repeat (with_reducible first | assumption | exact Below.refl _ _ | refine Below.drew ?_ | refine kBa ?_ | refine kBb (by assumption) ?_))).mono ?_; rintro e w3 ⟨xa, cxa', ya, dya, rfl, hb3, HOa, hla⟩)
        | (refine step_append_where .u64 _ rfl (.tmp 22) (.tmp 23) 22 rfl w2.heap.size 28 8 Tryz.underlying22 Tryz.infoU64 xa a.n cxa' a.f rfl ?o1 _ 0 1 1 (fun _ => 71) rfl ?r1 ?p0 ?p1 ?p2 ?p3 _ rfl ?_; (case o1 => (repeat (with_reducible first | exact HOa.out.1 | refine kOwd ?_ | refine kOwa ?_ | refine kOwb (by assumption) ?_))); (case r1 => (repeat (with_reducible first | (refine rd_newE ?_; (simp <;> fail)) | refine kR9d ?_ | refine kR9a ?_ | refine kRg (by assumption) (fun q hq => by have := hla.out.1 q hq; (try simp at this); (first | omega | (simp; omega))) ?_ | refine kR9b (by assumption) ?_))); (case p0 => omega); (case p1 => (unfold maxLen; omega)); (case p2 => omega); (case p3 => (refine szb ?_; repeat (with_reducible first | assumption | exact Below.refl _ _ | refine Below.drew ?_ | refine kBa ?_ | refine kBb (by assumption) ?_))); intro gA cA w5 hxa hgra hwa; have hb5 : Below w2.heap.size w2 w5 := (by refine below_app (f := a.f) ?_ ?_ hgra; (repeat (with_reducible first | assumption | exact Below.refl _ _ | refine Below.drew ?_ | refine kBa ?_ | refine kBb (by assumption) ?_)); (repeat (with_reducible first | exact HOa.out.1 | refine kOwd ?_ | refine kOwa ?_ | refine kOwb (by assumption) ?_))); have HXa := hid hxa; have HXal := own_at hxa; clear hxa)
        | (refine step_append_where .u64 _ rfl (.tmp 27) (.tmp 28) 22 rfl w2.heap.size 28 8 Tryz.underlying22 Tryz.infoU64 yb a.m dyb a.g rfl ?o1 _ 0 1 1 (fun _ => 72) rfl ?r1 ?p0 ?p1 ?p2 ?p3 _ rfl ?_; (case o1 => (repeat (with_reducible first | exact HOb.out.2 | refine kOwd ?_ | refine kOwa ?_ | refine kOwb (by assumption) ?_))); (case r1 => (repeat (with_reducible first | (refine rd_newE ?_; (simp <;> fail)) | refine kR9d ?_ | refine kR9a ?_ | refine kRg (by assumption) (fun q hq => by have := hla.out.1 q hq; (try simp at this); (first | omega | (simp; omega))) ?_ | refine kR9b (by assumption) ?_))); (case p0 => omega); (case p1 => (unfold maxLen; omega)); (case p2 => omega); (case p3 => (refine szb ?_; repeat (with_reducible first | assumption | exact Below.refl _ _ | refine Below.drew ?_ | refine kBa ?_ | refine kBb (by assumption) ?_))); intro gD cD w8 hxd hgrd hwd; have hb8 : Below w2.heap.size w2 w8 := (by refine below_app (f := a.g) ?_ ?_ hgrd; (repeat (with_reducible first | assumption | exact Below.refl _ _ | refine Below.drew ?_ | refine kBa ?_ | refine kBb (by assumption) ?_)); (repeat (with_reducible first | exact HOb.out.2 | refine kOwd ?_ | refine kOwa ?_ | refine kOwb (by assumption) ?_))); have HXd := hid hxd; have HXdl := own_at hxd; clear hxd))
    all_goals
      go_wp2_with fail
      go_meet
      refine ⟨_, gA, cA, gD, cD, rfl, rfl, rfl, hb8, ?_, HXd⟩
      show Own _ _ _ _ _ _ _
      repeat (with_reducible first | exact HXa.out | refine kOwd ?_ | refine kOwa ?_ | refine kOg (by assumption) (fun q hq => by have := hlb.out.2 q hq; obtain ⟨g9, e9, l9⟩ := HXal; cases e9; (try simp at this); (try simp at l9); (first | omega | (simp; omega))) ?_ | refine kOwb (by assumption) ?_)
  case rest =>
    clear CT hf1 hf2
    obtain ⟨w3, gA, cA, gD, cD, rfl, rfl, rfl, hb3, HXa, HXd⟩ := hcut
    have HW3 := hid (HW2.out.trans (hb3.mono HW2.out.size))
    have BA3 := hid (BA2.out.below hb3); have BB3 := hid (BB2.out.below hb3)
    clear za a0 a1 a2 zb b0 b1 b2 BA2 BB2 HW2 hb3 RA2 RB2
    obtain ⟨za, a0, a1, a2⟩ := BA3.out
    obtain ⟨zb, b0, b1, b2⟩ := BB3.out
    have hcA := (Own.slice HXa.out).1; have hcD := (Own.slice HXd.out).1
    have hcA2 := (Own.slice HXa.out).2.1; have hcD2 := (Own.slice HXd.out).2.1
    have i1 : ((a.n : Nat) : Int) ≤ ((cA : Nat) : Int) := by omega
    have i2 : ((a.m : Nat) : Int) ≤ ((cD : Nat) : Int) := by omega
    have i3 : ¬ (cA = a.n) := by omega
    have i4 : ¬ (cD = a.m) := by omega
    have CT2 : Hid (∀ W, Below w3.heap.size w3 W → Calls Tryz.prog 7 #[.agg #[.bool b.s, .slice b.x b.n b.c, .slice b.y b.m b.d]] W fun e w' => ∃ x c y d, e = .returned (.agg #[.bool b.s, .slice x b.n c, .slice y b.m d]) ∧ Below W.heap.size W w' ∧ Hid (Rw w' x b.n c b.f y b.m d b.g)) := fun W hW =>
      (qTwin_c ((RB.out.below HW3.out).below hW) (by omega) (by omega))
    go_upto_region 6 with fail
    go_cut [7, 8] from 30 to 44 (fun u v wx => ∃ (wy : World) (b7 b8 : Nat) (x : Option Addr) (c : Nat) (y : Option Addr) (d : Nat), wy = wx ∧ u = .pointer (some ⟨b7, 0, none⟩) ∧ v = .pointer (some ⟨b8, 0, none⟩) ∧ TAt w3 wy b7 b8 (.bool a.s) (.slice (some ⟨gA, 0, none⟩) a.n cA) (.slice (some ⟨gD, 0, none⟩) a.m cD) (.bool b.s) (.slice x b.n c) (.slice y b.m d) x b.n c b.f y b.m d b.g)
    case first =>
      go_region_held3 (fun w' => w'.cell? ⟨w.heap.size, 0, none⟩ = some (.bool a.s) ∧ w'.cell? ⟨w.heap.size, 1, none⟩ = some (.slice a.x a.n a.c) ∧ w'.cell? ⟨w.heap.size, 2, none⟩ = some (.slice a.y a.m a.d) ∧ w'.cell? ⟨w.heap.size + 1, 0, none⟩ = some (.bool b.s) ∧ w'.cell? ⟨w.heap.size + 1, 1, none⟩ = some (.slice b.x b.n b.c) ∧ w'.cell? ⟨w.heap.size + 1, 2, none⟩ = some (.slice b.y b.m b.d))
        (refine ⟨?_, ?_, ?_, ?_, ?_, ?_⟩ <;> repeat (with_reducible first | assumption | refine kCd ?_ | refine kCa ?_ | refine kCs (by simp only [ne_eq]; omega) ?_ | refine kCb (by assumption) ?_))
        (first | (go_at_call 7; with_reducible refine (CT2.out _ (by repeat (with_reducible first | assumption | exact Below.refl _ _ | refine Below.drew ?_ | refine kBa ?_ | refine kBb (by assumption) ?_))).mono ?_; rintro e v5 ⟨x5, c5, y5, d5, rfl, hb5, H5⟩; have hzi := hb5.size; (try simp at hzi); obtain ⟨hc5, hf5⟩ := bcell hb5; (try have q100 : w3.heap.size < v5.heap.size := by omega); (try have q101 : w3.heap.size + 1 < v5.heap.size := by omega)))
      all_goals
        go_wp2_with fail
        go_meet
        have hbl : Below w3.heap.size w3 v5 := (by repeat (with_reducible first | assumption | exact Below.refl _ _ | refine Below.drew ?_ | refine kBa ?_ | refine kBb (by assumption) ?_))
        refine ⟨_, _, _, x5, c5, y5, d5, rfl, rfl, rfl, ?_⟩
        clear CT2
        with_reducible first
          | exact tat_aa hbl H5.out
          | exact tat_ab hbl H5.out
          | exact tat_sa hbl H5.out (by repeat (with_reducible first | exact ob_at rfl | exact ob_at (size_alloc1 _ _).symm | refine kOb hb5 ?_ | refine Ob.drew ?_ | refine kObA ?_)) (by omega)
          | exact tat_as hbl H5.out (by repeat (with_reducible first | exact ob_at rfl | exact ob_at (size_alloc1 _ _).symm | refine kOb hb5 ?_ | refine Ob.drew ?_ | refine kObA ?_)) (by omega)
          | exact tat_ss hbl H5.out (by repeat (with_reducible first | exact ob_at rfl | exact ob_at (size_alloc1 _ _).symm | refine kOb hb5 ?_ | refine Ob.drew ?_ | refine kObA ?_)) (by omega) (by repeat (with_reducible first | exact ob_at rfl | exact ob_at (size_alloc1 _ _).symm | refine kOb hb5 ?_ | refine Ob.drew ?_ | refine kObA ?_)) (by omega) (by omega)
          | exact (tat_aa hbl H5.out).drew
          | exact (tat_ab hbl H5.out).drew
          | exact (tat_sa hbl H5.out (by repeat (with_reducible first | exact ob_at rfl | exact ob_at (size_alloc1 _ _).symm | refine kOb hb5 ?_ | refine Ob.drew ?_ | refine kObA ?_)) (by omega)).drew
          | exact (tat_as hbl H5.out (by repeat (with_reducible first | exact ob_at rfl | exact ob_at (size_alloc1 _ _).symm | refine kOb hb5 ?_ | refine Ob.drew ?_ | refine kObA ?_)) (by omega)).drew
          | exact (tat_ss hbl H5.out (by repeat (with_reducible first | exact ob_at rfl | exact ob_at (size_alloc1 _ _).symm | refine kOb hb5 ?_ | refine Ob.drew ?_ | refine kObA ?_)) (by omega) (by repeat (with_reducible first | exact ob_at rfl | exact ob_at (size_alloc1 _ _).symm | refine kOb hb5 ?_ | refine Ob.drew ?_ | refine kObA ?_)) (by omega) (by omega)).drew
    case rest =>
      obtain ⟨w4, b7, b8, xz, cz, yz, dz, rfl, rfl, rfl, hT⟩ := hcut
      have HI : Hid (In9 w4 w.heap.size a b ⟨b.s, xz, b.n, cz, b.f, yz, b.m, dz, b.g⟩ gA cA gD cD b7 b8) := ⟨RA.out.below (HW3.out.trans (hT.bel.mono HW3.out.size)), RB.out.below (HW3.out.trans (hT.bel.mono HW3.out.size)), BA3.out.below hT.bel, BB3.out.below hT.bel, Own.base (Own.below HXa.out hT.bel) (Nat.zero_le _), Own.base (Own.below HXd.out hT.bel) (Nat.zero_le _), hT.bx, hT.bz, hT.rw⟩
      have HW4 := hid (HW3.out.trans (hT.bel.mono HW3.out.size))
      have HSz : Hid (w.heap.size ≤ w4.heap.size) := HW4.out.size
      clear hT HXa HXd BA3 BB3 HW3 za a0 a1 a2 zb b0 b1 b2 i1 i2 i3 i4 CT2 hcA hcD hcA2 hcD2
      obtain ⟨V, CA⟩ : ∃ V : Nat → Option Rat, Hid (∀ (W : World) (x : Option Addr) (c : Nat) (y : Option Addr) (d : Nat) (x' : Option Addr) (c' : Nat) (y' : Option Addr) (d' : Nat), Rw W x a.n c a.f y a.m d a.g → Rw W x' b.n c' b.f y' b.m d' b.g → Calls Tryz.prog 8 #[.agg #[.bool a.s, .slice x a.n c, .slice y a.m d], .agg #[.bool b.s, .slice x' b.n c', .slice y' b.m d']] W fun e w' => ∃ gq S L, e = .returned (.slice (some ⟨gq, 0, none⟩) 8 8) ∧ Below W.heap.size W w' ∧ Hid (AnsR W w' gq S L V)) := by
        obtain ⟨qa, hqa⟩ : ∃ q, rfB a.s a.f a.n a.g a.m = true → Rn 100 w a.s a.x a.n a.c a.f a.y a.m a.d a.g q := by
          cases h : rfB a.s a.f a.n a.g a.m
          · exact ⟨0, fun h => by cases h⟩
          · obtain ⟨q, hq⟩ := RA.out.rn (L := 100) h (by omega) (by omega)
            exact ⟨q, fun _ => hq⟩
        obtain ⟨qb, hqb⟩ : ∃ q, rfB b.s b.f b.n b.g b.m = true → Rn 100 w b.s b.x b.n b.c b.f b.y b.m b.d b.g q := by
          cases h : rfB b.s b.f b.n b.g b.m
          · exact ⟨0, fun h => by cases h⟩
          · obtain ⟨q, hq⟩ := RB.out.rn (L := 100) h (by omega) (by omega)
            exact ⟨q, fun _ => hq⟩
        exact ⟨_, fun W x c y d x' c' y' d' h1 h2 => (rAnswers_c h1 h2 (by omega) (by omega) (by omega) (by omega) rfl rfl (fun h => (hqa h).moved h1) (fun h => (hqb h).moved h2)).mono (fun e w' ⟨gq, S, L, k1, k2⟩ => ⟨gq, S, L, k1, k2.bel, k2⟩)⟩
      obtain ⟨z7, x0, x1, x2⟩ := HI.out.bx
      obtain ⟨z8, y0, y1, y2⟩ := HI.out.bz
      have CA1 : Hid (∀ W, Below w4.heap.size w4 W → Calls Tryz.prog 8 #[.agg #[.bool a.s, .slice (some ⟨gA, 0, none⟩) a.n cA, .slice (some ⟨gD, 0, none⟩) a.m cD], .agg #[.bool b.s, .slice xz b.n cz, .slice yz b.m dz]] W fun e w' => ∃ gq S L, e = .returned (.slice (some ⟨gq, 0, none⟩) 8 8) ∧ Below W.heap.size W w' ∧ Hid (AnsR W w' gq S L V)) := fun W hW =>
        CA.out W _ _ _ _ _ _ _ _ (HI.out.below hW).rx (HI.out.below hW).rz
      go_upto_region 7 with fail
      go_cut [9, 10] from 45 to 50 (fun u v wx => ∃ (wy w5 w6 : World) (g1 : Nat) (S1 : Nat → Bool) (one : Nat → Ls) (g2 : Nat) (S2 : Nat → Bool) (two : Nat → Ls), wy = wx ∧ u = .slice (some ⟨g1, 0, none⟩) 8 8 ∧ v = .slice (some ⟨g2, 0, none⟩) 8 8 ∧ Hid (Below w4.heap.size w4 w5) ∧ Hid (AnsR w5 w6 g1 S1 one V) ∧ Hid (AnsR w6 wy g2 S2 two V))
      case first =>
        go_region_held3 (fun w' => w'.cell? ⟨b7, 0, none⟩ = some (.bool a.s) ∧ w'.cell? ⟨b7, 1, none⟩ = some (.slice (some ⟨gA, 0, none⟩) a.n cA) ∧ w'.cell? ⟨b7, 2, none⟩ = some (.slice (some ⟨gD, 0, none⟩) a.m cD) ∧ w'.cell? ⟨b8, 0, none⟩ = some (.bool b.s) ∧ w'.cell? ⟨b8, 1, none⟩ = some (.slice xz b.n cz) ∧ w'.cell? ⟨b8, 2, none⟩ = some (.slice yz b.m dz))
          (refine ⟨?_, ?_, ?_, ?_, ?_, ?_⟩ <;> repeat (with_reducible first | assumption | refine kCd ?_ | refine kCa ?_ | refine kCb (by assumption) ?_))
          (first
            | (have h9 := HA1.out; clear h9; go_at_call 8; with_reducible refine (CA1.out _ (by repeat (with_reducible first | assumption | exact Below.refl _ _ | refine Below.drew ?_ | refine kBa ?_ | refine kBb (by assumption) ?_))).mono ?_; rintro e w7 ⟨g2, S2, two, rfl, hb7, HA2⟩)
            | (go_at_call 8; with_reducible refine (CA1.out _ (by repeat (with_reducible first | assumption | exact Below.refl _ _ | refine Below.drew ?_ | refine kBa ?_ | refine kBb (by assumption) ?_))).mono ?_; rintro e w6 ⟨g1, S1, one, rfl, hb6, HA1⟩))
        all_goals
          go_wp2_with fail
          go_meet
          exact ⟨_, _, _, g1, S1, one, g2, S2, two, rfl, rfl, rfl, hid (by repeat (with_reducible first | assumption | exact Below.refl _ _ | refine Below.drew ?_ | refine kBa ?_ | refine kBb (by assumption) ?_)), HA1, HA2⟩
      case rest =>
        obtain ⟨w7, w5, w6, g1, S1, one, g2, S2, two, rfl, rfl, rfl, HB5, HA1, HA2⟩ := hcut
        clear CA1 x0 x1 x2 y0 y1 y2 z7 z8
        have I7 := hid (((HI.out.below HB5.out).below HA1.out.bel).below HA2.out.bel)
        obtain ⟨za, a0, a1, a2⟩ := I7.out.ba
        obtain ⟨zb, b0, b1, b2⟩ := I7.out.bb
        have CT1 : Hid (∀ W, Below w7.heap.size w7 W → Calls Tryz.prog 7 #[.agg #[.bool a.s, .slice a.x a.n a.c, .slice a.y a.m a.d]] W fun e w' => ∃ x c y d, e = .returned (.agg #[.bool a.s, .slice x a.n c, .slice y a.m d]) ∧ Below W.heap.size W w' ∧ Hid (Rw w' x a.n c a.f y a.m d a.g)) := fun W hW => qTwin_c (I7.out.below hW).ra (by omega) (by omega)
        have CT2 : Hid (∀ W, Below w7.heap.size w7 W → Calls Tryz.prog 7 #[.agg #[.bool b.s, .slice b.x b.n b.c, .slice b.y b.m b.d]] W fun e w' => ∃ x c y d, e = .returned (.agg #[.bool b.s, .slice x b.n c, .slice y b.m d]) ∧ Below W.heap.size W w' ∧ Hid (Rw w' x b.n c b.f y b.m d b.g)) := fun W hW => qTwin_c (I7.out.below hW).rb (by omega) (by omega)
        go_upto_region 8 with fail
        go_cut [11] from 51 to 55 (fun u wx => ∃ (wy wt : World) (g3 : Nat) (S3 : Nat → Bool) (want : Nat → Ls), wy = wx ∧ u = .slice (some ⟨g3, 0, none⟩) 8 8 ∧ Hid (Below w7.heap.size w7 wt) ∧ Hid (AnsR wt wy g3 S3 want V))
        case first =>
          go_region_held3 (fun w' => w'.cell? ⟨w.heap.size, 0, none⟩ = some (.bool a.s) ∧ w'.cell? ⟨w.heap.size, 1, none⟩ = some (.slice a.x a.n a.c) ∧ w'.cell? ⟨w.heap.size, 2, none⟩ = some (.slice a.y a.m a.d) ∧ w'.cell? ⟨w.heap.size + 1, 0, none⟩ = some (.bool b.s) ∧ w'.cell? ⟨w.heap.size + 1, 1, none⟩ = some (.slice b.x b.n b.c) ∧ w'.cell? ⟨w.heap.size + 1, 2, none⟩ = some (.slice b.y b.m b.d))
            (refine ⟨?_, ?_, ?_, ?_, ?_, ?_⟩ <;> repeat (with_reducible first | assumption | refine kCd ?_ | refine kCa ?_ | refine kCb (by assumption) ?_))
            (first
              | (go_at_call 7; with_reducible refine (CT1.out _ (by repeat (with_reducible first | assumption | exact Below.refl _ _ | refine Below.drew ?_ | refine kBa ?_ | refine kBb (by assumption) ?_))).mono ?_; rintro e w9 ⟨xp, cp, yp, dp, rfl, hb9, HOa⟩)
              | (go_at_call 7; with_reducible refine (CT2.out _ (by repeat (with_reducible first | assumption | exact Below.refl _ _ | refine Below.drew ?_ | refine kBa ?_ | refine kBb (by assumption) ?_))).mono ?_; rintro e w10 ⟨xq, cq, yq, dq, rfl, hb10, HOb⟩)
              | (go_at_call 8; with_reducible refine (CA.out _ xp cp yp dp xq cq yq dq (by repeat (with_reducible first | exact HOa.out | refine kRwd ?_ | refine kRwa9 ?_ | refine kRwb (by assumption) ?_)) (by repeat (with_reducible first | exact HOb.out | refine kRwd ?_ | refine kRwa9 ?_ | refine kRwb (by assumption) ?_))).mono ?_; rintro e w11 ⟨g3, S3, want, rfl, hb11, HA3⟩))
          all_goals
            go_wp2_with fail
            go_meet
            exact ⟨_, _, g3, S3, want, rfl, rfl, hid (by repeat (with_reducible first | assumption | exact Below.refl _ _ | refine Below.drew ?_ | refine kBa ?_ | refine kBb (by assumption) ?_)), HA3⟩
        case rest =>
          obtain ⟨w8, wt, g3, S3, want, rfl, rfl, HBt, HA3⟩ := hcut
          clear CT1 CT2 CA za a0 a1 a2 zb b0 b1 b2 I7
          have AA := hid (all9_mk (HI.out.below HB5.out) HA1.out HA2.out HBt.out HA3.out)
          have B8 : Hid (Below w.heap.size w w8) := HW4.out.trans ((HB5.out.trans (AA.out.b48.mono HB5.out.size)).mono HW4.out.size)
          have S5 : Hid (w.heap.size ≤ w5.heap.size) := Nat.le_trans HSz.out HB5.out.size
          clear HA1 HA2 HA3 HBt HB5 HI HW4 HSz RA RB HTab
          go_wp2_with fail
          go_loopw [58] (fun t wr => ∃ (i : Nat) (L : Nat → Ls), i ≤ 8 ∧ t = .int .i64 i ∧ Hid (KG 24 posR (othR S1) 16 w5.heap.size w6.heap.size w8 wr g1 L L ∧ (∀ j, 2 * i ≤ j → j < 16 → L j = one j) ∧ ∀ j, j < 2 * i → Sp9 j (L j))) (fun t _ => 8 - (intOf t).toNat)
          case atStart => exact ⟨0, one, by omega, rfl, AA.out.k1, fun _ _ _ => rfl, fun j hj => by omega⟩
          case round =>
            obtain ⟨i, L, hi8, rfl, HK⟩ := hrel
            by_cases hlt : i < 8
            · obtain ⟨wr1, hwr1⟩ : ∃ x : World, x = wr := ⟨wr, rfl⟩
              subst hwr1
              obtain ⟨HKk, hold, hnew⟩ := HK.out
              obtain ⟨T2, T3, I4⟩ := AA.out.t1 HKk.tur
              have hLa := hold (2 * i) (Nat.le_refl _) (by omega); have hLb := hold (2 * i + 1) (by omega) (by omega)
              obtain ⟨x1, n1, c1, f1, o1e⟩ : ∃ a b c d, one (2 * i) = ⟨a, b, c, d⟩ := ⟨_, _, _, _, rfl⟩
              obtain ⟨y1, m1, d1, h1, p1e⟩ : ∃ a b c d, one (2 * i + 1) = ⟨a, b, c, d⟩ := ⟨_, _, _, _, rfl⟩
              obtain ⟨x2, n2, c2, f2, o2e⟩ : ∃ a b c d, two (2 * i) = ⟨a, b, c, d⟩ := ⟨_, _, _, _, rfl⟩
              obtain ⟨y2, m2, d2, h2, p2e⟩ : ∃ a b c d, two (2 * i + 1) = ⟨a, b, c, d⟩ := ⟨_, _, _, _, rfl⟩
              obtain ⟨x3, n3, c3, f3, o3e⟩ : ∃ a b c d, want (2 * i) = ⟨a, b, c, d⟩ := ⟨_, _, _, _, rfl⟩
              obtain ⟨y3, m3, d3, h3, p3e⟩ : ∃ a b c d, want (2 * i + 1) = ⟨a, b, c, d⟩ := ⟨_, _, _, _, rfl⟩
              obtain ⟨q1, hq1⟩ : ∃ x, S1 i = x := ⟨_, rfl⟩
              obtain ⟨q2, hq2⟩ : ∃ x, S2 i = x := ⟨_, rfl⟩
              obtain ⟨q3, hq3⟩ : ∃ x, S3 i = x := ⟨_, rfl⟩
              have F1 := fam_cells9 HKk.fam hlt; have F2 := fam_cells9 T2.fam hlt; have F3 := fam_cells9 T3.fam hlt
              rw [hLa, hLb, o1e, p1e, hq1] at F1; rw [o2e, p2e, hq2] at F2; rw [o3e, p3e, hq3] at F3
              have v1 := AA.out.v1 i hlt; have v2 := AA.out.v2 i hlt; have v3 := AA.out.v3 i hlt
              rw [o1e, p1e, hq1] at v1; rw [o2e, p2e, hq2] at v2; rw [o3e, p3e, hq3] at v3
              have k1a : Lsb .u64 28 wr1 ⟨x1, n1, c1, f1⟩ := by have := HKk.own (2 * i) (by omega); rw [hLa, o1e] at this; exact this
              have k1b : Lsb .u64 28 wr1 ⟨y1, m1, d1, h1⟩ := by have := HKk.own (2 * i + 1) (by omega); rw [hLb, p1e] at this; exact this
              have k2a : Lsb .u64 28 wr1 ⟨x2, n2, c2, f2⟩ := by have := T2.own (2 * i) (by omega); rw [o2e] at this; exact this
              have k2b : Lsb .u64 28 wr1 ⟨y2, m2, d2, h2⟩ := by have := T2.own (2 * i + 1) (by omega); rw [p2e] at this; exact this
              have k3a : Lsb .u64 28 wr1 ⟨x3, n3, c3, f3⟩ := by have := T3.own (2 * i) (by omega); rw [o3e] at this; exact this
              have k3b : Lsb .u64 28 wr1 ⟨y3, m3, d3, h3⟩ := by have := T3.own (2 * i + 1) (by omega); rw [p3e] at this; exact this
              have le1 : n1 ≤ 2000 := v1.le.1
              have le2 : m1 ≤ 2000 := v1.le.2
              have CS1 : Hid (∀ W, Below wr1.heap.size wr1 W → Calls Tryz.prog 9 #[.agg #[.bool q1, .slice x1 n1 c1, .slice y1 m1 d1], .agg #[.bool q3, .slice x3 n3 c3, .slice y3 m3 d3]] W fun e w' => e = .returned (.bool true) ∧ Below W.heap.size W w') := fun W hW =>
                (by have h9 := rvq_same (w := W) v1 v3 (k1a.bel9 hW) (k1b.bel9 hW) (k3a.bel9 hW) (k3b.bel9 hW); exact h9)
              have CS2 : Hid (∀ W, Below wr1.heap.size wr1 W → Calls Tryz.prog 9 #[.agg #[.bool q2, .slice x2 n2 c2, .slice y2 m2 d2], .agg #[.bool q3, .slice x3 n3 c3, .slice y3 m3 d3]] W fun e w' => e = .returned (.bool true) ∧ Below W.heap.size W w') := fun W hW =>
                (by have h9 := rvq_same (w := W) v2 v3 (k2a.bel9 hW) (k2b.bel9 hW) (k3a.bel9 hW) (k3b.bel9 hW); exact h9)
              obtain ⟨s10, s11, s12⟩ : wr1.cell? ⟨g1, i * 3, none⟩ = some (.bool q1) ∧ wr1.cell? ⟨g1, i * 3 + 1, none⟩ = some (.slice x1 n1 c1) ∧ wr1.cell? ⟨g1, i * 3 + 2, none⟩ = some (.slice y1 m1 d1) := F1
              obtain ⟨s20, s21, s22⟩ : wr1.cell? ⟨g2, i * 3, none⟩ = some (.bool q2) ∧ wr1.cell? ⟨g2, i * 3 + 1, none⟩ = some (.slice x2 n2 c2) ∧ wr1.cell? ⟨g2, i * 3 + 2, none⟩ = some (.slice y2 m2 d2) := F2
              obtain ⟨s30, s31, s32⟩ : wr1.cell? ⟨g3, i * 3, none⟩ = some (.bool q3) ∧ wr1.cell? ⟨g3, i * 3 + 1, none⟩ = some (.slice x3 n3 c3) ∧ wr1.cell? ⟨g3, i * 3 + 2, none⟩ = some (.slice y3 m3 d3) := F3
              have HLa := hid (hLa.trans o1e); have HLb := hid (hLb.trans p1e)
              clear T2 T3 I4 hLa hLb v1 v2 v3 k1a k1b k2a k2b k3a k3b o1e o2e o3e p1e p2e p3e hq1 hq2 hq3 HKk hold hnew
              have i7 : ((i : Nat) : Int) < 8 := by omega
              go_upto_region 12 with fail
              go_cut [82] from 61 to 81 (fun u wx => ∃ (wy : World), wy = wx ∧ u = .bool false ∧ Below wr1.heap.size wr1 wy)
              case first =>
                go_region_held3 (fun w' => w'.cell? ⟨g1, i * 3, none⟩ = some (.bool q1) ∧ w'.cell? ⟨g1, i * 3 + 1, none⟩ = some (.slice x1 n1 c1) ∧ w'.cell? ⟨g1, i * 3 + 2, none⟩ = some (.slice y1 m1 d1) ∧ w'.cell? ⟨g2, i * 3, none⟩ = some (.bool q2) ∧ w'.cell? ⟨g2, i * 3 + 1, none⟩ = some (.slice x2 n2 c2) ∧ w'.cell? ⟨g2, i * 3 + 2, none⟩ = some (.slice y2 m2 d2) ∧ w'.cell? ⟨g3, i * 3, none⟩ = some (.bool q3) ∧ w'.cell? ⟨g3, i * 3 + 1, none⟩ = some (.slice x3 n3 c3) ∧ w'.cell? ⟨g3, i * 3 + 2, none⟩ = some (.slice y3 m3 d3))
                  (refine ⟨?_, ?_, ?_, ?_, ?_, ?_, ?_, ?_, ?_⟩ <;> repeat (with_reducible first | assumption | refine kCd ?_ | refine kCa ?_ | refine kCb (by assumption) ?_))
                  (first
                    | (go_at_call 9; with_reducible refine (CS1.out _ (by repeat (with_reducible first | assumption | exact Below.refl _ _ | refine Below.drew ?_ | refine kBa ?_ | refine kBb (by assumption) ?_))).mono ?_; rintro e w12 ⟨rfl, hb12⟩)
                    | (go_at_call 9; with_reducible refine (CS2.out _ (by repeat (with_reducible first | assumption | exact Below.refl _ _ | refine Below.drew ?_ | refine kBa ?_ | refine kBb (by assumption) ?_))).mono ?_; rintro e w13 ⟨rfl, hb13⟩))
                all_goals
                  go_wp2_with fail
                  go_meet
                  exact ⟨_, rfl, rfl, (by repeat (with_reducible first | assumption | exact Below.refl _ _ | refine Below.drew ?_ | refine kBa ?_ | refine kBb (by assumption) ?_))⟩
              case rest =>
                obtain ⟨wq, rfl, rfl, hbq⟩ := hcut
                have KQ := hid (HK.out.1.below hbq); have HOld := hid HK.out.2.1; have HNew := hid HK.out.2.2
                clear CS1 CS2 s10 s11 s12 s20 s21 s22 s30 s31 s32 HK hbq
                have C1 : Hid (∀ W, KG 24 posR (othR S1) 16 w5.heap.size w6.heap.size w8 W g1 L L → Calls Tryz.prog 10 #[.slice x1 n1 c1, .int .i64 (2 * (i : Int))] W fun e w' => ∃ g c' f', e = .returned (.slice (some ⟨g, 0, none⟩) (n1 + 1) c') ∧ (w'.cell? ⟨g1, i * 3 + 1, none⟩ = some (.slice x1 n1 c1) ∧ w'.cell? ⟨g1, i * 3 + 2, none⟩ = some (.slice y1 m1 d1)) ∧ Hid (KG 24 posR (othR S1) 16 w5.heap.size w6.heap.size w8 w' g1 L (updL L (2 * i) ⟨some ⟨g, 0, none⟩, n1 + 1, c', f'⟩) ∧ f' n1 = 9000 + ((2 * i : Nat) : Int))) := fun W hW => by
                  have ow : Own .u64 28 W 0 (.slice x1 n1 c1) n1 f1 := by have := hW.own (2 * i) (by omega); rw [HLa.out] at this; exact this
                  have hs := spoil3_c (2 * i) (by omega) le1 ow
                  rw [show ((2 * i : Nat) : Int) = 2 * (i : Int) by omega] at hs
                  refine hs.mono ?_
                  rintro e w' ⟨g, c', f', k1, k2, k3, k4, k5⟩
                  have kk := hW.turn (i := 2 * i) (by omega) (l := ⟨some ⟨g, 0, none⟩, n1 + 1, c', f'⟩) (g := g) rfl (by rw [HLa.out]; exact k2) k3 (by rw [HLa.out]; exact k4)
                  have FF := fam_cells9 kk.fam hlt
                  rw [HLa.out, HLb.out] at FF
                  exact ⟨g, c', f', k1, FF.2, kk, by rw [k5]; omega⟩
                have C2 : Hid (∀ W g c' f', KG 24 posR (othR S1) 16 w5.heap.size w6.heap.size w8 W g1 L (updL L (2 * i) ⟨some ⟨g, 0, none⟩, n1 + 1, c', f'⟩) → Calls Tryz.prog 10 #[.slice y1 m1 d1, .int .i64 (2 * (i : Int) + 1)] W fun e w' => ∃ g' c'' f'', e = .returned (.slice (some ⟨g', 0, none⟩) (m1 + 1) c'') ∧ (w'.cell? ⟨g1, i * 3 + 1, none⟩ = some (.slice x1 n1 c1) ∧ w'.cell? ⟨g1, i * 3 + 2, none⟩ = some (.slice y1 m1 d1)) ∧ (∀ o, w'.frozen? ⟨g1, o, none⟩ = false) ∧ Hid (KG 24 posR (othR S1) 16 w5.heap.size w6.heap.size w8 w' g1 L (updL (updL L (2 * i) ⟨some ⟨g, 0, none⟩, n1 + 1, c', f'⟩) (2 * i + 1) ⟨some ⟨g', 0, none⟩, m1 + 1, c'', f''⟩) ∧ f'' m1 = 9000 + ((2 * i + 1 : Nat) : Int))) := fun W g c' f' hW => by
                  have e9 : updL L (2 * i) ⟨some ⟨g, 0, none⟩, n1 + 1, c', f'⟩ (2 * i + 1) = ⟨y1, m1, d1, h1⟩ := by rw [updL_other _ _ _ _ (by omega), HLb.out]
                  have ow : Own .u64 28 W 0 (.slice y1 m1 d1) m1 h1 := by have := hW.own (2 * i + 1) (by omega); rw [e9] at this; exact this
                  have hs := spoil3_c (2 * i + 1) (by omega) le2 ow
                  rw [show ((2 * i + 1 : Nat) : Int) = 2 * (i : Int) + 1 by omega] at hs
                  refine hs.mono ?_
                  rintro e w' ⟨g', c'', f'', k1, k2, k3, k4, k5⟩
                  have kk := hW.turn (i := 2 * i + 1) (by omega) (l := ⟨some ⟨g', 0, none⟩, m1 + 1, c'', f''⟩) (g := g') rfl (by rw [e9]; exact k2) k3 (by rw [e9]; exact k4)
                  have FF := fam_cells9 kk.fam hlt
                  rw [HLa.out, HLb.out] at FF
                  exact ⟨g', c'', f'', k1, FF.2, kk.fam.frozen, kk, by rw [k5]; omega⟩
                obtain ⟨s11, s12⟩ : wq.cell? ⟨g1, i * 3 + 1, none⟩ = some (.slice x1 n1 c1) ∧ wq.cell? ⟨g1, i * 3 + 2, none⟩ = some (.slice y1 m1 d1) := by
                  have FF := fam_cells9 KQ.out.fam hlt
                  rw [HLa.out, HLb.out] at FF
                  exact FF.2
                go_upto_region 14 with fail
                have wz1 : IntKind.i64.wrap (2 * (i : Int)) = 2 * (i : Int) := by rw [IntKind.wrap_i64]; omega
                have wz2 : IntKind.i64.wrap (2 * (i : Int) + 1) = 2 * (i : Int) + 1 := by rw [IntKind.wrap_i64]; omega
                refine wp_region_phase (S := fun w' => w'.cell? ⟨g1, i * 3 + 1, none⟩ = some (.slice x1 n1 c1) ∧ w'.cell? ⟨g1, i * 3 + 2, none⟩ = some (.slice y1 m1 d1)) 23 (by kernel_rfl) ⟨kCd s11, kCd s12⟩ (fun hHeld => ?_)
                refine wpAnyP_skim (i := 0) (v := ?_) rfl (by kernel_rfl) (by kernel_rfl) (by kernel_rfl) (by kernel_rfl) (fun _ _ _ h => h) (Or.inl ⟨by rfl, ?_⟩) (fun _ => by assumption) ?_
                rotate_left
                (focus (intro w0 hSw; go_simp <;> with_reducible rfl))
                simp only [List.getElem_toArray, List.getElem_cons_zero, Act.put, List.setIfInBounds_toArray, List.set_cons_zero, List.set_cons_succ]
                refine wpAnyP_skim (i := 1) (v := ?_) rfl (by kernel_rfl) (by kernel_rfl) (by kernel_rfl) (by kernel_rfl) (fun _ _ _ h => h) (Or.inl ⟨by rfl, ?_⟩) (fun _ => by assumption) ?_
                rotate_left
                (focus (intro w0 hSw; go_simp <;> with_reducible rfl))
                simp only [List.getElem_toArray, List.getElem_cons_succ, List.getElem_cons_zero, Act.put, List.setIfInBounds_toArray, List.set_cons_zero, List.set_cons_succ]
                refine wpAnyP_skim (i := 2) (v := ?_) rfl (by kernel_rfl) (by kernel_rfl) (by kernel_rfl) (by kernel_rfl) (fun _ _ _ h => h) (Or.inl ⟨by rfl, ?_⟩) (fun _ => by assumption) ?_
                rotate_left
                (focus (intro w0 hSw; go_simp <;> with_reducible rfl))
                simp only [List.getElem_toArray, List.getElem_cons_succ, List.getElem_cons_zero, Act.put, List.setIfInBounds_toArray, List.set_cons_zero, List.set_cons_succ]
                refine wpAnyP_skim (i := 3) (v := ?_) rfl (by kernel_rfl) (by kernel_rfl) (by kernel_rfl) (by kernel_rfl) (fun _ _ _ h => h) (Or.inl ⟨by rfl, ?_⟩) (fun _ => by assumption) ?_
                rotate_left
                (focus (intro w0 hSw; go_simp <;> with_reducible rfl))
                simp only [List.getElem_toArray, List.getElem_cons_succ, List.getElem_cons_zero, Act.put, List.setIfInBounds_toArray, List.set_cons_zero, List.set_cons_succ]
                refine wpAnyP_skim (i := 4) (v := ?_) rfl (by kernel_rfl) (by kernel_rfl) (by kernel_rfl) (by kernel_rfl) (fun _ _ _ h => h) (Or.inl ⟨by rfl, ?_⟩) (fun _ => by assumption) ?_
                rotate_left
                (focus (intro w0 hSw; go_simp <;> with_reducible rfl))
                simp only [List.getElem_toArray, List.getElem_cons_succ, List.getElem_cons_zero, Act.put, List.setIfInBounds_toArray, List.set_cons_zero, List.set_cons_succ]
                refine wpAnyP_skim (i := 5) (v := ?_) rfl (by kernel_rfl) (by kernel_rfl) (by kernel_rfl) (by kernel_rfl) (fun _ _ _ h => h) (Or.inl ⟨by rfl, ?_⟩) (fun _ => by assumption) ?_
                rotate_left
                (focus (intro w0 hSw; go_simp <;> with_reducible rfl))
                simp only [List.getElem_toArray, List.getElem_cons_succ, List.getElem_cons_zero, Act.put, List.setIfInBounds_toArray, List.set_cons_zero, List.set_cons_succ]
                refine wpAnyP_skim (i := 6) (v := ?_) rfl (by kernel_rfl) (by kernel_rfl) (by kernel_rfl) (by kernel_rfl) (fun _ _ _ h => h) (Or.inl ⟨by rfl, ?_⟩) (fun _ => by assumption) ?_
                rotate_left
                (focus (intro w0 hSw; go_simp <;> with_reducible rfl))
                simp only [List.getElem_toArray, List.getElem_cons_succ, List.getElem_cons_zero, Act.put, List.setIfInBounds_toArray, List.set_cons_zero, List.set_cons_succ]
                refine wpAnyP_skim (i := 7) (v := ?_) rfl (by kernel_rfl) (by kernel_rfl) (by kernel_rfl) (by kernel_rfl) (fun _ _ _ h => h) (Or.inl ⟨by rfl, ?_⟩) (fun _ => by assumption) ?_
                rotate_left
                (focus (intro w0 hSw; go_simp <;> with_reducible rfl))
                simp only [List.getElem_toArray, List.getElem_cons_succ, List.getElem_cons_zero, Act.put, List.setIfInBounds_toArray, List.set_cons_zero, List.set_cons_succ]
                refine wpAnyP_take (i := 8) (v := ?_) rfl (by kernel_rfl) (by kernel_rfl) (by kernel_rfl) (by kernel_rfl) (by kernel_rfl) (fun _ _ _ h => h) (Or.inl ⟨by rfl, ?_⟩) (by assumption) ?_
                rotate_left
                (focus (intro w0 hSw; (try dsimp only at hSw); go_simp <;> with_reducible rfl))
                simp only [List.getElem_toArray, List.getElem_cons_succ, List.getElem_cons_zero, Act.put, List.setIfInBounds_toArray, List.set_cons_zero, List.set_cons_succ]
                refine wpAnyP_skim (i := 9) (v := ?_) rfl (by kernel_rfl) (by kernel_rfl) (by kernel_rfl) (by kernel_rfl) (fun _ _ _ h => h) (Or.inl ⟨by rfl, ?_⟩) (fun _ => by assumption) ?_
                rotate_left
                (focus (intro w0 hSw; go_simp <;> with_reducible rfl))
                simp only [List.getElem_toArray, List.getElem_cons_succ, List.getElem_cons_zero, Act.put, List.setIfInBounds_toArray, List.set_cons_zero, List.set_cons_succ]
                refine wpAnyP_skim (i := 10) (v := ?_) rfl (by kernel_rfl) (by kernel_rfl) (by kernel_rfl) (by kernel_rfl) (fun _ _ _ h => h) (Or.inl ⟨by rfl, ?_⟩) (fun _ => by assumption) ?_
                rotate_left
                (focus (intro w0 hSw; go_simp <;> with_reducible rfl))
                simp only [List.getElem_toArray, List.getElem_cons_succ, List.getElem_cons_zero, Act.put, List.setIfInBounds_toArray, List.set_cons_zero, List.set_cons_succ]
                refine wpAnyP_skim (i := 12) (v := ?_) rfl (by kernel_rfl) (by kernel_rfl) (by kernel_rfl) (by kernel_rfl) (fun _ _ _ h => h) (Or.inl ⟨by rfl, ?_⟩) (fun _ => by assumption) ?_
                rotate_left
                (focus (intro w0 hSw; go_simp <;> with_reducible rfl))
                simp only [List.getElem_toArray, List.getElem_cons_succ, List.getElem_cons_zero, Act.put, List.setIfInBounds_toArray, List.set_cons_zero, List.set_cons_succ]
                refine wpAnyP_skim (i := 13) (v := ?_) rfl (by kernel_rfl) (by kernel_rfl) (by kernel_rfl) (by kernel_rfl) (fun _ _ _ h => h) (Or.inl ⟨by rfl, ?_⟩) (fun _ => by assumption) ?_
                rotate_left
                (focus (intro w0 hSw; go_simp <;> with_reducible rfl))
                simp only [List.getElem_toArray, List.getElem_cons_succ, List.getElem_cons_zero, Act.put, List.setIfInBounds_toArray, List.set_cons_zero, List.set_cons_succ]
                refine wpAnyP_skim (i := 14) (v := ?_) rfl (by kernel_rfl) (by kernel_rfl) (by kernel_rfl) (by kernel_rfl) (fun _ _ _ h => h) (Or.inl ⟨by rfl, ?_⟩) (fun _ => by assumption) ?_
                rotate_left
                (focus (intro w0 hSw; go_simp <;> with_reducible rfl))
                simp only [List.getElem_toArray, List.getElem_cons_succ, List.getElem_cons_zero, Act.put, List.setIfInBounds_toArray, List.set_cons_zero, List.set_cons_succ]
                refine wpAnyP_skim (i := 15) (v := ?_) rfl (by kernel_rfl) (by kernel_rfl) (by kernel_rfl) (by kernel_rfl) (fun _ _ _ h => h) (Or.inl ⟨by rfl, ?_⟩) (fun _ => by assumption) ?_
                rotate_left
                (focus (intro w0 hSw; go_simp <;> with_reducible rfl))
                simp only [List.getElem_toArray, List.getElem_cons_succ, List.getElem_cons_zero, Act.put, List.setIfInBounds_toArray, List.set_cons_zero, List.set_cons_succ]
                refine wpAnyP_take (i := 16) (v := ?_) rfl (by kernel_rfl) (by kernel_rfl) (by kernel_rfl) (by kernel_rfl) (by kernel_rfl) (fun _ _ _ h => h) (Or.inl ⟨by rfl, ?_⟩) (by assumption) ?_
                rotate_left
                (focus (intro w0 hSw; (try dsimp only at hSw); go_simp <;> with_reducible rfl))
                simp only [List.getElem_toArray, List.getElem_cons_succ, List.getElem_cons_zero, Act.put, List.setIfInBounds_toArray, List.set_cons_zero, List.set_cons_succ]
                refine wpAnyP_skim (i := 17) (v := ?_) rfl (by kernel_rfl) (by kernel_rfl) (by kernel_rfl) (by kernel_rfl) (fun _ _ _ h => h) (Or.inl ⟨by rfl, ?_⟩) (fun _ => by assumption) ?_
                rotate_left
                (focus (intro w0 hSw; go_simp <;> with_reducible rfl))
                simp only [List.getElem_toArray, List.getElem_cons_succ, List.getElem_cons_zero, Act.put, List.setIfInBounds_toArray, List.set_cons_zero, List.set_cons_succ]
                refine wpAnyP_skim (i := 18) (v := ?_) rfl (by kernel_rfl) (by kernel_rfl) (by kernel_rfl) (by kernel_rfl) (fun _ _ _ h => h) (Or.inl ⟨by rfl, ?_⟩) (fun _ => by assumption) ?_
                rotate_left
                (focus (intro w0 hSw; go_simp <;> with_reducible rfl))
                simp only [List.getElem_toArray, List.getElem_cons_succ, List.getElem_cons_zero, Act.put, List.setIfInBounds_toArray, List.set_cons_zero, List.set_cons_succ]
                refine wpAnyP_skim (i := 19) (v := ?_) rfl (by kernel_rfl) (by kernel_rfl) (by kernel_rfl) (by kernel_rfl) (fun _ _ _ h => h) (Or.inl ⟨by rfl, ?_⟩) (fun _ => by assumption) ?_
                rotate_left
                (focus (intro w0 hSw; go_simp <;> with_reducible rfl))
                simp only [List.getElem_toArray, List.getElem_cons_succ, List.getElem_cons_zero, Act.put, List.setIfInBounds_toArray, List.set_cons_zero, List.set_cons_succ]
                refine wpAnyP_ready (rs := [11]) (by kernel_rfl) (by simp) ?_
                refine AllReadyP.cons (o := _) rfl (fun K hK => ?_) ?_
                rotate_left
                exact AllReadyP.nil
                go_simp
                go_at_call 10
                with_reducible refine (C1.out _ KQ.out.drew).mono ?_
                rintro e w12 ⟨ga, ca, fa, rfl, ht1, HG1⟩
                (try go_wp2_with fail)
                refine hK.out _ _ (fun _ => ht1) (fun hH => ?_)
                replace hHeld := hH (by kernel_rfl)
                clear hK K hH
                try simp only [Act.put, List.setIfInBounds_toArray, List.set_cons_zero, List.set_cons_succ]
                refine wpAnyP_ready (rs := [20]) (by kernel_rfl) (by simp) ?_
                refine AllReadyP.cons (o := _) rfl (fun K hK => ?_) ?_
                rotate_left
                exact AllReadyP.nil
                go_simp
                go_at_call 10
                with_reducible refine (C2.out _ ga ca fa HG1.out.1).mono ?_
                rintro e w13 ⟨gb, cb, fb, rfl, hu1, uf, HG2⟩
                (try go_wp2_with fail)
                refine hK.out _ _ (fun _ => hu1) (fun hH => ?_)
                replace hHeld := hH (by kernel_rfl)
                clear hK K hH
                try simp only [Act.put, List.setIfInBounds_toArray, List.set_cons_zero, List.set_cons_succ]
                have u11 := hHeld.1; have u12 := hHeld.2; have uf1 := uf (i * 3 + 1); have uf2 := uf (i * 3 + 2)
                refine wpAnyP_skim (i := 21) (v := ?_) rfl (by kernel_rfl) (by kernel_rfl) (by kernel_rfl) (by kernel_rfl) (fun _ _ _ h => h) (Or.inl ⟨by rfl, ?_⟩) (fun _ => by assumption) ?_
                rotate_left
                (focus (intro w0 hSw; go_simp <;> with_reducible rfl))
                simp only [List.getElem_toArray, List.getElem_cons_succ, List.getElem_cons_zero, Act.put, List.setIfInBounds_toArray, List.set_cons_zero, List.set_cons_succ]
                refine wpAnyP_skim (i := 22) (v := ?_) rfl (by kernel_rfl) (by kernel_rfl) (by kernel_rfl) (by kernel_rfl) (fun _ _ _ h => h) (Or.inl ⟨by rfl, ?_⟩) (fun _ => by assumption) ?_
                rotate_left
                (focus (intro w0 hSw; go_simp <;> with_reducible rfl))
                simp only [List.getElem_toArray, List.getElem_cons_succ, List.getElem_cons_zero, Act.put, List.setIfInBounds_toArray, List.set_cons_zero, List.set_cons_succ]
                refine wpAnyP_ready (rs := [23]) (by kernel_rfl) (by simp) ?_
                refine AllReadyP.cons (o := _) rfl (fun K hK => ?_) ?_
                rotate_left
                exact AllReadyP.nil
                go_simp
                refine hK.out _ _ (fun h => by cases h) (fun hH20 => ?_)
                clear hK K hH20
                refine wpAnyP_skim (i := 24) (v := ?_) rfl (by kernel_rfl) (by kernel_rfl) (by kernel_rfl) (by kernel_rfl) (fun _ _ _ h => h) (Or.inl ⟨by rfl, ?_⟩) (fun h => by cases h) ?_
                rotate_left
                (focus (intro w0 hSw; go_simp <;> with_reducible rfl))
                simp only [List.getElem_toArray, List.getElem_cons_succ, List.getElem_cons_zero, Act.put, List.setIfInBounds_toArray, List.set_cons_zero, List.set_cons_succ]
                refine wpAnyP_skim (i := 25) (v := ?_) rfl (by kernel_rfl) (by kernel_rfl) (by kernel_rfl) (by kernel_rfl) (fun _ _ _ h => h) (Or.inl ⟨by rfl, ?_⟩) (fun h => by cases h) ?_
                rotate_left
                (focus (intro w0 hSw; go_simp <;> with_reducible rfl))
                simp only [List.getElem_toArray, List.getElem_cons_succ, List.getElem_cons_zero, Act.put, List.setIfInBounds_toArray, List.set_cons_zero, List.set_cons_succ]
                refine wpAnyP_ready (rs := [26]) (by kernel_rfl) (by simp) ?_
                refine AllReadyP.cons (o := _) rfl (fun K hK => ?_) ?_
                rotate_left
                exact AllReadyP.nil
                go_simp
                refine hK.out _ _ (fun h => by cases h) (fun hH23 => ?_)
                clear hK K hH23
                refine wpAnyP_done (by kernel_rfl) ?_ _
                have KP := ((HG2.out.1.put (i := 2 * i) (by omega) ⟨some ⟨ga, 0, none⟩, n1 + 1, ca, fa⟩).put (i := 2 * i + 1) (by omega) ⟨some ⟨gb, 0, none⟩, m1 + 1, cb, fb⟩)
                rw [show posR (2 * i) = i * 3 + 1 by unfold posR; omega, show posR (2 * i + 1) = i * 3 + 2 by unfold posR; omega] at KP
                have KP2 := hid KP; have E1 := hid HG1.out.2; have E2 := hid HG2.out.2
                clear KP HG1 HG2 C1 C2 KQ s11 s12 u11 u12 uf uf1 uf2 ht1 hu1 wz1 wz2
                go_wp2
                go_roundw
                case rel =>
                  refine ⟨i + 1, _, by omega, by go_num, KP2.out, fun j hj hj16 => ?_, fun j hj => ?_⟩
                  · rw [updL_other _ _ _ _ (by omega), updL_other _ _ _ _ (by omega)]; exact HOld.out j (by omega) hj16
                  · rcases (show j < 2 * i ∨ j = 2 * i ∨ j = 2 * i + 1 by omega) with h | rfl | rfl
                    · rw [updL_other _ _ _ _ (by omega), updL_other _ _ _ _ (by omega)]; exact HNew.out j h
                    · rw [updL_other _ _ _ _ (by omega), updL_same]; exact ⟨Nat.succ_pos _, by show n1 + 1 ≤ 4096; omega, E1.out⟩
                    · rw [updL_same]; exact ⟨Nat.succ_pos _, by show m1 + 1 ≤ 4096; omega, E2.out⟩
                case measure => simp [intOf]; omega
            · have e8 : i = 8 := by omega
              have HK8 : Hid (KG 24 posR (othR S1) 16 w5.heap.size w6.heap.size w8 wr g1 L L ∧ ∀ j, j < 16 → Sp9 j (L j)) := ⟨HK.out.1, fun j hj => HK.out.2.2 j (by omega)⟩
              have i9 : ¬ (((i : Nat) : Int) < 8) := by omega
              clear HK e8
              have HK := HK8
              clear HK8
              obtain ⟨wa, hwa⟩ : ∃ x : World, x = wr := ⟨wr, rfl⟩
              subst hwa
              go_wp2_with fail
              go_loopw [111] (fun t wr => ∃ (i : Nat) (M : Nat → Ls), i ≤ 8 ∧ t = .int .i64 i ∧ Hid (KG 24 posR (othR S2) 16 w6.heap.size w7.heap.size wa wr g2 M M ∧ ∀ j, 2 * i ≤ j → j < 16 → M j = two j)) (fun t _ => 8 - (intOf t).toNat)
              case atStart => exact ⟨0, two, by omega, rfl, AA.out.k2 HK.out.1.tur, fun _ _ _ => rfl⟩
              case round =>
                obtain ⟨i, M, hi, rfl, HK2⟩ := hrel
                by_cases hlt2 : i < 8
                · obtain ⟨wr1, hwr1⟩ : ∃ x : World, x = wr := ⟨wr, rfl⟩
                  subst hwr1
                  obtain ⟨HKk, hold⟩ := HK2.out
                  obtain ⟨T1, T3, I4, _⟩ := AA.out.t2 HK.out.1 HKk.tur
                  have hLa := hold (2 * i) (Nat.le_refl _) (by omega); have hLb := hold (2 * i + 1) (by omega) (by omega)
                  obtain ⟨x2, n2, c2, f2, o2e⟩ : ∃ a b c d, two (2 * i) = ⟨a, b, c, d⟩ := ⟨_, _, _, _, rfl⟩
                  obtain ⟨y2, m2, d2, h2, p2e⟩ : ∃ a b c d, two (2 * i + 1) = ⟨a, b, c, d⟩ := ⟨_, _, _, _, rfl⟩
                  obtain ⟨x3, n3, c3, f3, o3e⟩ : ∃ a b c d, want (2 * i) = ⟨a, b, c, d⟩ := ⟨_, _, _, _, rfl⟩
                  obtain ⟨y3, m3, d3, h3, p3e⟩ : ∃ a b c d, want (2 * i + 1) = ⟨a, b, c, d⟩ := ⟨_, _, _, _, rfl⟩
                  obtain ⟨q2, hq2⟩ : ∃ x, S2 i = x := ⟨_, rfl⟩
                  obtain ⟨q3, hq3⟩ : ∃ x, S3 i = x := ⟨_, rfl⟩
                  have F2 := fam_cells9 HKk.fam hlt2; have F3 := fam_cells9 T3.fam hlt2
                  rw [hLa, hLb, o2e, p2e, hq2] at F2; rw [o3e, p3e, hq3] at F3
                  have v2 := AA.out.v2 i hlt2; have v3 := AA.out.v3 i hlt2
                  rw [o2e, p2e, hq2] at v2; rw [o3e, p3e, hq3] at v3
                  have k2a : Lsb .u64 28 wr1 ⟨x2, n2, c2, f2⟩ := by have := HKk.own (2 * i) (by omega); rw [hLa, o2e] at this; exact this
                  have k2b : Lsb .u64 28 wr1 ⟨y2, m2, d2, h2⟩ := by have := HKk.own (2 * i + 1) (by omega); rw [hLb, p2e] at this; exact this
                  have k3a : Lsb .u64 28 wr1 ⟨x3, n3, c3, f3⟩ := by have := T3.own (2 * i) (by omega); rw [o3e] at this; exact this
                  have k3b : Lsb .u64 28 wr1 ⟨y3, m3, d3, h3⟩ := by have := T3.own (2 * i + 1) (by omega); rw [p3e] at this; exact this
                  have le1 : n2 ≤ 2000 := v2.le.1
                  have le2 : m2 ≤ 2000 := v2.le.2
                  have CS2 : Hid (∀ W, Below wr1.heap.size wr1 W → Calls Tryz.prog 9 #[.agg #[.bool q2, .slice x2 n2 c2, .slice y2 m2 d2], .agg #[.bool q3, .slice x3 n3 c3, .slice y3 m3 d3]] W fun e w' => e = .returned (.bool true) ∧ Below W.heap.size W w') := fun W hW =>
                    (by have h9 := rvq_same (w := W) v2 v3 (k2a.bel9 hW) (k2b.bel9 hW) (k3a.bel9 hW) (k3b.bel9 hW); exact h9)
                  obtain ⟨s20, s21, s22⟩ : wr1.cell? ⟨g2, i * 3, none⟩ = some (.bool q2) ∧ wr1.cell? ⟨g2, i * 3 + 1, none⟩ = some (.slice x2 n2 c2) ∧ wr1.cell? ⟨g2, i * 3 + 2, none⟩ = some (.slice y2 m2 d2) := F2
                  obtain ⟨s30, s31, s32⟩ : wr1.cell? ⟨g3, i * 3, none⟩ = some (.bool q3) ∧ wr1.cell? ⟨g3, i * 3 + 1, none⟩ = some (.slice x3 n3 c3) ∧ wr1.cell? ⟨g3, i * 3 + 2, none⟩ = some (.slice y3 m3 d3) := F3
                  have HLa := hid (hLa.trans o2e); have HLb := hid (hLb.trans p2e)
                  clear T1 T3 I4 hLa hLb v2 v3 k2a k2b k3a k3b o2e o3e p2e p3e hq2 hq3 HKk hold
                  have i7 : ((i : Nat) : Int) < 8 := by omega
                  go_upto_region 19 with fail
                  go_cut [123] from 114 to 122 (fun u wx => ∃ (wy : World), wy = wx ∧ u = .bool false ∧ Below wr1.heap.size wr1 wy)
                  case first =>
                    go_region_held3 (fun w' => w'.cell? ⟨g2, i * 3, none⟩ = some (.bool q2) ∧ w'.cell? ⟨g2, i * 3 + 1, none⟩ = some (.slice x2 n2 c2) ∧ w'.cell? ⟨g2, i * 3 + 2, none⟩ = some (.slice y2 m2 d2) ∧ w'.cell? ⟨g3, i * 3, none⟩ = some (.bool q3) ∧ w'.cell? ⟨g3, i * 3 + 1, none⟩ = some (.slice x3 n3 c3) ∧ w'.cell? ⟨g3, i * 3 + 2, none⟩ = some (.slice y3 m3 d3))
                      (refine ⟨?_, ?_, ?_, ?_, ?_, ?_⟩ <;> repeat (with_reducible first | assumption | refine kCd ?_ | refine kCa ?_ | refine kCb (by assumption) ?_))
                      (first | (go_at_call 9; with_reducible refine (CS2.out _ (by repeat (with_reducible first | assumption | exact Below.refl _ _ | refine Below.drew ?_ | refine kBa ?_ | refine kBb (by assumption) ?_))).mono ?_; rintro e w13 ⟨rfl, hb13⟩))
                    all_goals
                      go_wp2_with fail
                      go_meet
                      exact ⟨_, rfl, rfl, (by repeat (with_reducible first | assumption | exact Below.refl _ _ | refine Below.drew ?_ | refine kBa ?_ | refine kBb (by assumption) ?_))⟩
                  case rest =>
                    obtain ⟨wq, rfl, rfl, hbq⟩ := hcut
                    have KQ := hid (HK2.out.1.below hbq); have HOld := hid HK2.out.2
                    clear CS2 s20 s21 s22 s30 s31 s32 HK2 hbq
                    obtain ⟨s21, s22⟩ : wq.cell? ⟨g2, i * 3 + 1, none⟩ = some (.slice x2 n2 c2) ∧ wq.cell? ⟨g2, i * 3 + 2, none⟩ = some (.slice y2 m2 d2) := by
                      have FF := fam_cells9 KQ.out.fam hlt2
                      rw [HLa.out, HLb.out] at FF
                      exact FF.2
                    have hg2l : g2 < wq.heap.size := KQ.out.fam.lt
                    have OA : Hid (Own .u64 28 wq 0 (.slice x2 n2 c2) n2 f2) := by have := KQ.out.own (2 * i) (by omega); rw [HLa.out] at this; exact this
                    have T1 : Hid (∀ W W' ga ca, KG 24 posR (othR S2) 16 w6.heap.size w7.heap.size wa W g2 M M → W.grownBy W' (Value.ownBlock (.slice x2 n2 c2)) → Own .u64 28 W' 0 (.slice (some ⟨ga, 0, none⟩) (n2 + 1) ca) (n2 + 1) (cat f2 n2 (fun _ => 1)) → (ga = W.heap.size ∨ x2 = some ⟨ga, 0, none⟩) → KG 24 posR (othR S2) 16 w6.heap.size w7.heap.size wa W' g2 M (updL M (2 * i) ⟨some ⟨ga, 0, none⟩, n2 + 1, ca, cat f2 n2 (fun _ => 1)⟩) ∧ (W'.cell? ⟨g2, i * 3 + 1, none⟩ = some (.slice x2 n2 c2) ∧ W'.cell? ⟨g2, i * 3 + 2, none⟩ = some (.slice y2 m2 d2)) ∧ Own .u64 28 W' 0 (.slice y2 m2 d2) m2 h2 ∧ W.heap.size ≤ W'.heap.size) := fun W W' ga ca h1 h2' h3 h4 => by
                      have kk := h1.turn (i := 2 * i) (by omega) (l := ⟨some ⟨ga, 0, none⟩, n2 + 1, ca, cat f2 n2 (fun _ => 1)⟩) (g := ga) rfl (by rw [HLa.out]; exact (Ch.refl _ _).grown h2') h3 (by rw [HLa.out]; rcases h4 with h | h; exact .inl (by omega); exact .inr h)
                      have FF := fam_cells9 kk.fam hlt2
                      rw [HLa.out, HLb.out] at FF
                      have e9 : updL M (2 * i) ⟨some ⟨ga, 0, none⟩, n2 + 1, ca, cat f2 n2 (fun _ => 1)⟩ (2 * i + 1) = ⟨y2, m2, d2, h2⟩ := by rw [updL_other _ _ _ _ (by omega), HLb.out]
                      have ob := kk.own (2 * i + 1) (by omega)
                      rw [e9] at ob
                      exact ⟨kk, FF.2, ob, h2'.size⟩
                    have T2 : Hid (∀ W W' ga ca gb cb, KG 24 posR (othR S2) 16 w6.heap.size w7.heap.size wa W g2 M (updL M (2 * i) ⟨some ⟨ga, 0, none⟩, n2 + 1, ca, cat f2 n2 (fun _ => 1)⟩) → W.grownBy W' (Value.ownBlock (.slice y2 m2 d2)) → Own .u64 28 W' 0 (.slice (some ⟨gb, 0, none⟩) (m2 + 1) cb) (m2 + 1) (cat h2 m2 (fun _ => 2)) → (gb = W.heap.size ∨ y2 = some ⟨gb, 0, none⟩) → KG 24 posR (othR S2) 16 w6.heap.size w7.heap.size wa W' g2 M (updL (updL M (2 * i) ⟨some ⟨ga, 0, none⟩, n2 + 1, ca, cat f2 n2 (fun _ => 1)⟩) (2 * i + 1) ⟨some ⟨gb, 0, none⟩, m2 + 1, cb, cat h2 m2 (fun _ => 2)⟩) ∧ (W'.cell? ⟨g2, i * 3 + 1, none⟩ = some (.slice x2 n2 c2) ∧ W'.cell? ⟨g2, i * 3 + 2, none⟩ = some (.slice y2 m2 d2)) ∧ ∀ o, W'.frozen? ⟨g2, o, none⟩ = false) := fun W W' ga ca gb cb h1 h2' h3 h4 => by
                      have e9 : updL M (2 * i) ⟨some ⟨ga, 0, none⟩, n2 + 1, ca, cat f2 n2 (fun _ => 1)⟩ (2 * i + 1) = ⟨y2, m2, d2, h2⟩ := by rw [updL_other _ _ _ _ (by omega), HLb.out]
                      have kk := h1.turn (i := 2 * i + 1) (by omega) (l := ⟨some ⟨gb, 0, none⟩, m2 + 1, cb, cat h2 m2 (fun _ => 2)⟩) (g := gb) rfl (by rw [e9]; exact (Ch.refl _ _).grown h2') h3 (by rw [e9]; rcases h4 with h | h; exact .inl (by omega); exact .inr h)
                      have FF := fam_cells9 kk.fam hlt2
                      rw [HLa.out, HLb.out] at FF
                      exact ⟨kk, FF.2, kk.fam.frozen⟩
                    go_upto_region 21 with fail
                    have hxl : ∀ q, x2 = some q → q.block < wq.heap.size := fun q hq => ((Own.slice OA.out).2.2.2.2 q hq).2
                    have HXL := hid hxl
                    clear hxl
                    refine wp_region_phase (S := fun w' => w'.cell? ⟨g2, i * 3 + 1, none⟩ = some (.slice x2 n2 c2) ∧ w'.cell? ⟨g2, i * 3 + 2, none⟩ = some (.slice y2 m2 d2)) 20 (by kernel_rfl) ⟨kCd s21, kCd s22⟩ (fun hHeld => ?_)
                    have hs1 := hHeld.1; have hs2 := hHeld.2
                    refine wpAnyP_take (i := 0) (v := ?_) rfl (by kernel_rfl) (by kernel_rfl) (by kernel_rfl) (by kernel_rfl) (by kernel_rfl) (fun _ _ _ h => h) (Or.inl ⟨by rfl, ?_⟩) (by assumption) ?_
                    rotate_left
                    (focus (intro w0 hSw; (try dsimp only at hSw); go_simp <;> with_reducible rfl))
                    simp only [List.getElem_toArray, List.getElem_cons_zero, Act.put, List.setIfInBounds_toArray, List.set_cons_zero, List.set_cons_succ]
                    refine wpAnyP_take (i := 1) (v := ?_) rfl (by kernel_rfl) (by kernel_rfl) (by kernel_rfl) (by kernel_rfl) (by kernel_rfl) (fun _ _ _ h => h) (Or.inl ⟨by rfl, ?_⟩) (by assumption) ?_
                    rotate_left
                    (focus (intro w0 hSw; (try dsimp only at hSw); go_simp <;> with_reducible rfl))
                    simp only [List.getElem_toArray, List.getElem_cons_succ, List.getElem_cons_zero, Act.put, List.setIfInBounds_toArray, List.set_cons_zero, List.set_cons_succ]
                    refine wpAnyP_skim (i := 2) (v := ?_) rfl (by kernel_rfl) (by kernel_rfl) (by kernel_rfl) (by kernel_rfl) (fun _ _ _ h => h) (Or.inl ⟨by rfl, ?_⟩) (fun _ => by assumption) ?_
                    rotate_left
                    (focus (intro w0 hSw; go_simp <;> with_reducible rfl))
                    simp only [List.getElem_toArray, List.getElem_cons_succ, List.getElem_cons_zero, Act.put, List.setIfInBounds_toArray, List.set_cons_zero, List.set_cons_succ]
                    refine wpAnyP_skim (i := 3) (v := ?_) rfl (by kernel_rfl) (by kernel_rfl) (by kernel_rfl) (by kernel_rfl) (fun _ _ _ h => h) (Or.inl ⟨by rfl, ?_⟩) (fun _ => by assumption) ?_
                    rotate_left
                    (focus (intro w0 hSw; go_simp <;> with_reducible rfl))
                    simp only [List.getElem_toArray, List.getElem_cons_succ, List.getElem_cons_zero, Act.put, List.setIfInBounds_toArray, List.set_cons_zero, List.set_cons_succ]
                    refine wpAnyP_take (i := 4) (v := ?_) rfl (by kernel_rfl) (by kernel_rfl) (by kernel_rfl) (by kernel_rfl) (by kernel_rfl) (fun _ _ _ h => h) (Or.inl ⟨by rfl, ?_⟩) (by assumption) ?_
                    rotate_left
                    (focus (intro w0 hSw; (try dsimp only at hSw); go_simp <;> with_reducible rfl))
                    simp only [List.getElem_toArray, List.getElem_cons_succ, List.getElem_cons_zero, Act.put, List.setIfInBounds_toArray, List.set_cons_zero, List.set_cons_succ]
                    refine wpAnyP_take (i := 5) (v := ?_) rfl (by kernel_rfl) (by kernel_rfl) (by kernel_rfl) (by kernel_rfl) (by kernel_rfl) (fun _ _ _ h => h) (Or.inl ⟨by rfl, ?_⟩) (by assumption) ?_
                    rotate_left
                    (focus (intro w0 hSw; (try dsimp only at hSw); go_simp <;> with_reducible rfl))
                    simp only [List.getElem_toArray, List.getElem_cons_succ, List.getElem_cons_zero, Act.put, List.setIfInBounds_toArray, List.set_cons_zero, List.set_cons_succ]
                    refine wpAnyP_take (i := 6) (v := ?_) rfl (by kernel_rfl) (by kernel_rfl) (by kernel_rfl) (by kernel_rfl) (by kernel_rfl) (fun _ _ _ h => h) (Or.inl ⟨by rfl, ?_⟩) (by assumption) ?_
                    rotate_left
                    (focus (intro w0 hSw; (try dsimp only at hSw); go_simp <;> with_reducible rfl))
                    simp only [List.getElem_toArray, List.getElem_cons_succ, List.getElem_cons_zero, Act.put, List.setIfInBounds_toArray, List.set_cons_zero, List.set_cons_succ]
                    refine wpAnyP_take (i := 7) (v := ?_) rfl (by kernel_rfl) (by kernel_rfl) (by kernel_rfl) (by kernel_rfl) (by kernel_rfl) (fun _ _ _ h => h) (Or.inl ⟨by rfl, ?_⟩) (by assumption) ?_
                    rotate_left
                    (focus (intro w0 hSw; (try dsimp only at hSw); go_simp <;> with_reducible rfl))
                    simp only [List.getElem_toArray, List.getElem_cons_succ, List.getElem_cons_zero, Act.put, List.setIfInBounds_toArray, List.set_cons_zero, List.set_cons_succ]
                    refine wpAnyP_take (i := 8) (v := ?_) rfl (by kernel_rfl) (by kernel_rfl) (by kernel_rfl) (by kernel_rfl) (by kernel_rfl) (fun _ _ _ h => h) (Or.inl ⟨by rfl, ?_⟩) (by assumption) ?_
                    rotate_left
                    (focus (intro w0 hSw; (try dsimp only at hSw); go_simp <;> with_reducible rfl))
                    simp only [List.getElem_toArray, List.getElem_cons_succ, List.getElem_cons_zero, Act.put, List.setIfInBounds_toArray, List.set_cons_zero, List.set_cons_succ]
                    refine wpAnyP_skim (i := 11) (v := ?_) rfl (by kernel_rfl) (by kernel_rfl) (by kernel_rfl) (by kernel_rfl) (fun _ _ _ h => h) (Or.inl ⟨by rfl, ?_⟩) (fun _ => by assumption) ?_
                    rotate_left
                    (focus (intro w0 hSw; go_simp <;> with_reducible rfl))
                    simp only [List.getElem_toArray, List.getElem_cons_succ, List.getElem_cons_zero, Act.put, List.setIfInBounds_toArray, List.set_cons_zero, List.set_cons_succ]
                    refine wpAnyP_skim (i := 12) (v := ?_) rfl (by kernel_rfl) (by kernel_rfl) (by kernel_rfl) (by kernel_rfl) (fun _ _ _ h => h) (Or.inl ⟨by rfl, ?_⟩) (fun _ => by assumption) ?_
                    rotate_left
                    (focus (intro w0 hSw; go_simp <;> with_reducible rfl))
                    simp only [List.getElem_toArray, List.getElem_cons_succ, List.getElem_cons_zero, Act.put, List.setIfInBounds_toArray, List.set_cons_zero, List.set_cons_succ]
                    refine wpAnyP_skim (i := 13) (v := ?_) rfl (by kernel_rfl) (by kernel_rfl) (by kernel_rfl) (by kernel_rfl) (fun _ _ _ h => h) (Or.inl ⟨by rfl, ?_⟩) (fun _ => by assumption) ?_
                    rotate_left
                    (focus (intro w0 hSw; go_simp <;> with_reducible rfl))
                    simp only [List.getElem_toArray, List.getElem_cons_succ, List.getElem_cons_zero, Act.put, List.setIfInBounds_toArray, List.set_cons_zero, List.set_cons_succ]
                    refine wpAnyP_skim (i := 14) (v := ?_) rfl (by kernel_rfl) (by kernel_rfl) (by kernel_rfl) (by kernel_rfl) (fun _ _ _ h => h) (Or.inl ⟨by rfl, ?_⟩) (fun _ => by assumption) ?_
                    rotate_left
                    (focus (intro w0 hSw; go_simp <;> with_reducible rfl))
                    simp only [List.getElem_toArray, List.getElem_cons_succ, List.getElem_cons_zero, Act.put, List.setIfInBounds_toArray, List.set_cons_zero, List.set_cons_succ]
                    refine wpAnyP_take (i := 15) (v := ?_) rfl (by kernel_rfl) (by kernel_rfl) (by kernel_rfl) (by kernel_rfl) (by kernel_rfl) (fun _ _ _ h => h) (Or.inl ⟨by rfl, ?_⟩) (by assumption) ?_
                    rotate_left
                    (focus (intro w0 hSw; (try dsimp only at hSw); go_simp <;> with_reducible rfl))
                    simp only [List.getElem_toArray, List.getElem_cons_succ, List.getElem_cons_zero, Act.put, List.setIfInBounds_toArray, List.set_cons_zero, List.set_cons_succ]
                    refine wpAnyP_ready (rs := [9, 16]) (by kernel_rfl) (by simp) ?_
                    refine AllReadyP.cons (o := _) rfl (fun K hK => ?_) ?_
                    · go_simp
                      refine hK.out _ _ (fun _ => (by refine ⟨?_, ?_⟩ <;> repeat (with_reducible first | assumption | refine kCd ?_ | refine kCa ?_))) (fun hH => ?_)
                      replace hHeld := hH (by kernel_rfl)
                      clear hK K hH
                      replace hs1 := hHeld.1; replace hs2 := hHeld.2
                      try simp only [Act.put, List.setIfInBounds_toArray, List.set_cons_zero, List.set_cons_succ]
                      refine wpAnyP_ready (rs := [10, 16]) (by kernel_rfl) (by simp) ?_
                      refine AllReadyP.cons (o := _) rfl (fun K hK => ?_) ?_
                      · refine step_append_where .u64 _ rfl (.tmp 132) (.tmp 133) 22 rfl 0 28 8 Tryz.underlying22 Tryz.infoU64 x2 n2 c2 f2 rfl ?o1 _ 0 1 1 (fun _ => 1) rfl ?r1 ?p0 ?p1 ?p2 ?p3 _ rfl ?_
                        case o1 => repeat (with_reducible first | exact OA.out | refine kOwd ?_ | refine kOwa ?_)
                        case r1 => repeat (with_reducible first | (refine rd_newE ?_; (simp <;> fail)) | refine kR9d ?_ | refine kR9a ?_)
                        case p0 => omega
                        case p1 => unfold maxLen; omega
                        case p2 => omega
                        case p3 => omega
                        intro ga ca w5 hxa hgra hwa
                        obtain ⟨KA, hc5, OB, hz5⟩ := T1.out _ w5 ga ca (by repeat (with_reducible first | exact KQ.out | refine KG.drew ?_ | refine KG.alloc9 ?_)) hgra hxa hwa
                        have HKA := hid KA; have HOB := hid OB; have HGR := hid hgra
                        clear KA OB hxa hwa hgra
                        refine hK.out _ _ (fun _ => hc5) (fun hH => ?_)
                        replace hHeld := hH (by kernel_rfl)
                        clear hK K hH
                        replace hs1 := hHeld.1; replace hs2 := hHeld.2
                        simp only [List.getElem_toArray, List.getElem_cons_succ, List.getElem_cons_zero, Act.put, List.setIfInBounds_toArray, List.set_cons_zero, List.set_cons_succ]
                        refine wpAnyP_ready (rs := [16]) (by kernel_rfl) (by simp) ?_
                        refine AllReadyP.cons (o := _) rfl (fun K hK => ?_) ?_
                        rotate_left
                        exact AllReadyP.nil
                        go_simp
                        refine hK.out _ _ (fun _ => (by refine ⟨?_, ?_⟩ <;> repeat (with_reducible first | assumption | refine kCd ?_ | refine kCa ?_))) (fun hH => ?_)
                        replace hHeld := hH (by kernel_rfl)
                        clear hK K hH
                        replace hs1 := hHeld.1; replace hs2 := hHeld.2
                        try simp only [Act.put, List.setIfInBounds_toArray, List.set_cons_zero, List.set_cons_succ]
                        refine wpAnyP_ready (rs := [17]) (by kernel_rfl) (by simp) ?_
                        refine AllReadyP.cons (o := _) rfl (fun K hK => ?_) ?_
                        rotate_left
                        exact AllReadyP.nil
                        refine step_append_where .u64 _ rfl (.tmp 139) (.tmp 140) 22 rfl 0 28 8 Tryz.underlying22 Tryz.infoU64 y2 m2 d2 h2 rfl ?o1 _ 0 1 1 (fun _ => 2) rfl ?r1 ?p0 ?p1 ?p2 ?p3 _ rfl ?_
                        case o1 => repeat (with_reducible first | exact HOB.out | refine kOwd ?_ | refine kOwa ?_)
                        case r1 => repeat (with_reducible first | (refine rd_newE ?_; (simp <;> fail)) | refine kR9d ?_ | refine kR9a ?_)
                        case p0 => omega
                        case p1 => unfold maxLen; omega
                        case p2 => omega
                        case p3 => omega
                        intro gb cb w8 hxb hgrb hwb
                        obtain ⟨KB, hc8, hf8⟩ := T2.out _ w8 ga ca gb cb (by repeat (with_reducible first | exact HKA.out | refine KG.drew ?_ | refine KG.alloc9 ?_)) hgrb hxb hwb
                        have HKB := hid KB
                        clear KB hxb hwb hgrb HKA HOB HGR
                        refine hK.out _ _ (fun _ => hc8) (fun hH => ?_)
                        replace hHeld := hH (by kernel_rfl)
                        clear hK K hH
                        replace hs1 := hHeld.1; replace hs2 := hHeld.2
                        simp only [List.getElem_toArray, List.getElem_cons_succ, List.getElem_cons_zero, Act.put, List.setIfInBounds_toArray, List.set_cons_zero, List.set_cons_succ]
                        have k21 := hc8.1; have k22 := hc8.2; have uf1 := hf8 (i * 3 + 1); have uf2 := hf8 (i * 3 + 2)
                        refine wpAnyP_skim (i := 18) (v := ?_) rfl (by kernel_rfl) (by kernel_rfl) (by kernel_rfl) (by kernel_rfl) (fun _ _ _ h => h) (Or.inl ⟨by rfl, ?_⟩) (fun _ => by assumption) ?_
                        rotate_left
                        (focus (intro w0 hSw; go_simp <;> with_reducible rfl))
                        simp only [List.getElem_toArray, List.getElem_cons_succ, List.getElem_cons_zero, Act.put, List.setIfInBounds_toArray, List.set_cons_zero, List.set_cons_succ]
                        refine wpAnyP_skim (i := 19) (v := ?_) rfl (by kernel_rfl) (by kernel_rfl) (by kernel_rfl) (by kernel_rfl) (fun _ _ _ h => h) (Or.inl ⟨by rfl, ?_⟩) (fun _ => by assumption) ?_
                        rotate_left
                        (focus (intro w0 hSw; go_simp <;> with_reducible rfl))
                        simp only [List.getElem_toArray, List.getElem_cons_succ, List.getElem_cons_zero, Act.put, List.setIfInBounds_toArray, List.set_cons_zero, List.set_cons_succ]
                        refine wpAnyP_ready (rs := [20]) (by kernel_rfl) (by simp) ?_
                        refine AllReadyP.cons (o := _) rfl (fun K hK => ?_) ?_
                        rotate_left
                        exact AllReadyP.nil
                        go_simp
                        refine hK.out _ _ (fun h => by cases h) (fun hH20 => ?_)
                        clear hK K hH20
                        refine wpAnyP_skim (i := 21) (v := ?_) rfl (by kernel_rfl) (by kernel_rfl) (by kernel_rfl) (by kernel_rfl) (fun _ _ _ h => h) (Or.inl ⟨by rfl, ?_⟩) (fun h => by cases h) ?_
                        rotate_left
                        (focus (intro w0 hSw; go_simp <;> with_reducible rfl))
                        simp only [List.getElem_toArray, List.getElem_cons_succ, List.getElem_cons_zero, Act.put, List.setIfInBounds_toArray, List.set_cons_zero, List.set_cons_succ]
                        refine wpAnyP_skim (i := 22) (v := ?_) rfl (by kernel_rfl) (by kernel_rfl) (by kernel_rfl) (by kernel_rfl) (fun _ _ _ h => h) (Or.inl ⟨by rfl, ?_⟩) (fun h => by cases h) ?_
                        rotate_left
                        (focus (intro w0 hSw; go_simp <;> with_reducible rfl))
                        simp only [List.getElem_toArray, List.getElem_cons_succ, List.getElem_cons_zero, Act.put, List.setIfInBounds_toArray, List.set_cons_zero, List.set_cons_succ]
                        refine wpAnyP_ready (rs := [23]) (by kernel_rfl) (by simp) ?_
                        refine AllReadyP.cons (o := _) rfl (fun K hK => ?_) ?_
                        rotate_left
                        exact AllReadyP.nil
                        go_simp
                        refine hK.out _ _ (fun h => by cases h) (fun hH23 => ?_)
                        clear hK K hH23
                        refine wpAnyP_done (by kernel_rfl) ?_ _
                        have KP := ((HKB.out.put (i := 2 * i) (by omega) ⟨some ⟨ga, 0, none⟩, n2 + 1, ca, cat f2 n2 (fun _ => 1)⟩).put (i := 2 * i + 1) (by omega) ⟨some ⟨gb, 0, none⟩, m2 + 1, cb, cat h2 m2 (fun _ => 2)⟩)
                        rw [show posR (2 * i) = i * 3 + 1 by unfold posR; omega, show posR (2 * i + 1) = i * 3 + 2 by unfold posR; omega] at KP
                        replace KP := hid KP
                        clear HKB hc8 hf8 k21 k22 uf1 uf2
                        generalize hWW : ((w8.setCell ⟨g2, i * 3 + 1, none⟩ (.slice (some ⟨ga, 0, none⟩) (n2 + 1) ca)).setCell ⟨g2, i * 3 + 2, none⟩ (.slice (some ⟨gb, 0, none⟩) (m2 + 1) cb)) = W9 at KP
                        have HWW := hid hWW
                        clear hWW
                        obtain ⟨ka, pa, qa, kb, pb, qb, l1, l2, u1, u2, u3, u4⟩ := marks9 (AA.out.t2 HK.out.1 KP.out.tur).1 HK.out.2 hlt2
                        have i8 : ((ka : Nat) : Int) < ((ka + 1 : Nat) : Int) := by omega
                        have i9 : ((kb : Nat) : Int) < ((kb + 1 : Nat) : Int) := by omega
                        go_wp2_with fail
                        try rw [HWW.out]
                        clear HWW
                        go_quiet (fail)
                        go_wp2
                        go_roundw
                        case rel =>
                          refine ⟨i + 1, _, by omega, by go_num, KP.out.drewN _, fun j hj hj16 => ?_⟩
                          rw [updL_other _ _ _ _ (by omega), updL_other _ _ _ _ (by omega)]; exact HOld.out j (by omega) hj16
                        case measure => simp [intOf]; omega
                      refine AllReadyP.cons (o := _) rfl (fun K hK => ?_) ?_
                      · go_simp
                        refine hK.out _ _ (fun _ => (by refine ⟨?_, ?_⟩ <;> repeat (with_reducible first | assumption | refine kCd ?_ | refine kCa ?_))) (fun hH => ?_)
                        replace hHeld := hH (by kernel_rfl)
                        clear hK K hH
                        replace hs1 := hHeld.1; replace hs2 := hHeld.2
                        try simp only [Act.put, List.setIfInBounds_toArray, List.set_cons_zero, List.set_cons_succ]
                        refine wpAnyP_ready (rs := [10]) (by kernel_rfl) (by simp) ?_
                        refine AllReadyP.cons (o := _) rfl (fun K hK => ?_) ?_
                        rotate_left
                        exact AllReadyP.nil
                        refine step_append_where .u64 _ rfl (.tmp 132) (.tmp 133) 22 rfl 0 28 8 Tryz.underlying22 Tryz.infoU64 x2 n2 c2 f2 rfl ?o1 _ 0 1 1 (fun _ => 1) rfl ?r1 ?p0 ?p1 ?p2 ?p3 _ rfl ?_
                        case o1 => repeat (with_reducible first | exact OA.out | refine kOwd ?_ | refine kOwa ?_)
                        case r1 => repeat (with_reducible first | (refine rd_newE ?_; (simp <;> fail)) | refine kR9d ?_ | refine kR9a ?_)
                        case p0 => omega
                        case p1 => unfold maxLen; omega
                        case p2 => omega
                        case p3 => omega
                        intro ga ca w5 hxa hgra hwa
                        obtain ⟨KA, hc5, OB, hz5⟩ := T1.out _ w5 ga ca (by repeat (with_reducible first | exact KQ.out | refine KG.drew ?_ | refine KG.alloc9 ?_)) hgra hxa hwa
                        have HKA := hid KA; have HOB := hid OB; have HGR := hid hgra
                        clear KA OB hxa hwa hgra
                        refine hK.out _ _ (fun _ => hc5) (fun hH => ?_)
                        replace hHeld := hH (by kernel_rfl)
                        clear hK K hH
                        replace hs1 := hHeld.1; replace hs2 := hHeld.2
                        simp only [List.getElem_toArray, List.getElem_cons_succ, List.getElem_cons_zero, Act.put, List.setIfInBounds_toArray, List.set_cons_zero, List.set_cons_succ]
                        refine wpAnyP_ready (rs := [17]) (by kernel_rfl) (by simp) ?_
                        refine AllReadyP.cons (o := _) rfl (fun K hK => ?_) ?_
                        rotate_left
                        exact AllReadyP.nil
                        refine step_append_where .u64 _ rfl (.tmp 139) (.tmp 140) 22 rfl 0 28 8 Tryz.underlying22 Tryz.infoU64 y2 m2 d2 h2 rfl ?o1 _ 0 1 1 (fun _ => 2) rfl ?r1 ?p0 ?p1 ?p2 ?p3 _ rfl ?_
                        case o1 => repeat (with_reducible first | exact HOB.out | refine kOwd ?_ | refine kOwa ?_)
                        case r1 => repeat (with_reducible first | (refine rd_newE ?_; (simp <;> fail)) | refine kR9d ?_ | refine kR9a ?_ | refine kRg HGR.out (fun q hq => by have := HXL.out q hq; (try simp at this); (first | omega | (simp; omega))) ?_)
                        case p0 => omega
                        case p1 => unfold maxLen; omega
                        case p2 => omega
                        case p3 => omega
                        intro gb cb w8 hxb hgrb hwb
                        obtain ⟨KB, hc8, hf8⟩ := T2.out _ w8 ga ca gb cb (by repeat (with_reducible first | exact HKA.out | refine KG.drew ?_ | refine KG.alloc9 ?_)) hgrb hxb hwb
                        have HKB := hid KB
                        clear KB hxb hwb hgrb HKA HOB HGR
                        refine hK.out _ _ (fun _ => hc8) (fun hH => ?_)
                        replace hHeld := hH (by kernel_rfl)
                        clear hK K hH
                        replace hs1 := hHeld.1; replace hs2 := hHeld.2
                        simp only [List.getElem_toArray, List.getElem_cons_succ, List.getElem_cons_zero, Act.put, List.setIfInBounds_toArray, List.set_cons_zero, List.set_cons_succ]
                        have k21 := hc8.1; have k22 := hc8.2; have uf1 := hf8 (i * 3 + 1); have uf2 := hf8 (i * 3 + 2)
                        refine wpAnyP_skim (i := 18) (v := ?_) rfl (by kernel_rfl) (by kernel_rfl) (by kernel_rfl) (by kernel_rfl) (fun _ _ _ h => h) (Or.inl ⟨by rfl, ?_⟩) (fun _ => by assumption) ?_
                        rotate_left
                        (focus (intro w0 hSw; go_simp <;> with_reducible rfl))
                        simp only [List.getElem_toArray, List.getElem_cons_succ, List.getElem_cons_zero, Act.put, List.setIfInBounds_toArray, List.set_cons_zero, List.set_cons_succ]
                        refine wpAnyP_skim (i := 19) (v := ?_) rfl (by kernel_rfl) (by kernel_rfl) (by kernel_rfl) (by kernel_rfl) (fun _ _ _ h => h) (Or.inl ⟨by rfl, ?_⟩) (fun _ => by assumption) ?_
                        rotate_left
                        (focus (intro w0 hSw; go_simp <;> with_reducible rfl))
                        simp only [List.getElem_toArray, List.getElem_cons_succ, List.getElem_cons_zero, Act.put, List.setIfInBounds_toArray, List.set_cons_zero, List.set_cons_succ]
                        refine wpAnyP_ready (rs := [20]) (by kernel_rfl) (by simp) ?_
                        refine AllReadyP.cons (o := _) rfl (fun K hK => ?_) ?_
                        rotate_left
                        exact AllReadyP.nil
                        go_simp
                        refine hK.out _ _ (fun h => by cases h) (fun hH20 => ?_)
                        clear hK K hH20
                        refine wpAnyP_skim (i := 21) (v := ?_) rfl (by kernel_rfl) (by kernel_rfl) (by kernel_rfl) (by kernel_rfl) (fun _ _ _ h => h) (Or.inl ⟨by rfl, ?_⟩) (fun h => by cases h) ?_
                        rotate_left
                        (focus (intro w0 hSw; go_simp <;> with_reducible rfl))
                        simp only [List.getElem_toArray, List.getElem_cons_succ, List.getElem_cons_zero, Act.put, List.setIfInBounds_toArray, List.set_cons_zero, List.set_cons_succ]
                        refine wpAnyP_skim (i := 22) (v := ?_) rfl (by kernel_rfl) (by kernel_rfl) (by kernel_rfl) (by kernel_rfl) (fun _ _ _ h => h) (Or.inl ⟨by rfl, ?_⟩) (fun h => by cases h) ?_
                        rotate_left
                        (focus (intro w0 hSw; go_simp <;> with_reducible rfl))
                        simp only [List.getElem_toArray, List.getElem_cons_succ, List.getElem_cons_zero, Act.put, List.setIfInBounds_toArray, List.set_cons_zero, List.set_cons_succ]
                        refine wpAnyP_ready (rs := [23]) (by kernel_rfl) (by simp) ?_
                        refine AllReadyP.cons (o := _) rfl (fun K hK => ?_) ?_
                        rotate_left
                        exact AllReadyP.nil
                        go_simp
                        refine hK.out _ _ (fun h => by cases h) (fun hH23 => ?_)
                        clear hK K hH23
                        refine wpAnyP_done (by kernel_rfl) ?_ _
                        have KP := ((HKB.out.put (i := 2 * i) (by omega) ⟨some ⟨ga, 0, none⟩, n2 + 1, ca, cat f2 n2 (fun _ => 1)⟩).put (i := 2 * i + 1) (by omega) ⟨some ⟨gb, 0, none⟩, m2 + 1, cb, cat h2 m2 (fun _ => 2)⟩)
                        rw [show posR (2 * i) = i * 3 + 1 by unfold posR; omega, show posR (2 * i + 1) = i * 3 + 2 by unfold posR; omega] at KP
                        replace KP := hid KP
                        clear HKB hc8 hf8 k21 k22 uf1 uf2
                        generalize hWW : ((w8.setCell ⟨g2, i * 3 + 1, none⟩ (.slice (some ⟨ga, 0, none⟩) (n2 + 1) ca)).setCell ⟨g2, i * 3 + 2, none⟩ (.slice (some ⟨gb, 0, none⟩) (m2 + 1) cb)) = W9 at KP
                        have HWW := hid hWW
                        clear hWW
                        obtain ⟨ka, pa, qa, kb, pb, qb, l1, l2, u1, u2, u3, u4⟩ := marks9 (AA.out.t2 HK.out.1 KP.out.tur).1 HK.out.2 hlt2
                        have i8 : ((ka : Nat) : Int) < ((ka + 1 : Nat) : Int) := by omega
                        have i9 : ((kb : Nat) : Int) < ((kb + 1 : Nat) : Int) := by omega
                        go_wp2_with fail
                        try rw [HWW.out]
                        clear HWW
                        go_quiet (fail)
                        go_wp2
                        go_roundw
                        case rel =>
                          refine ⟨i + 1, _, by omega, by go_num, KP.out.drewN _, fun j hj hj16 => ?_⟩
                          rw [updL_other _ _ _ _ (by omega), updL_other _ _ _ _ (by omega)]; exact HOld.out j (by omega) hj16
                        case measure => simp [intOf]; omega
                      exact AllReadyP.nil
                    refine AllReadyP.cons (o := _) rfl (fun K hK => ?_) ?_
                    · go_simp
                      refine hK.out _ _ (fun _ => (by refine ⟨?_, ?_⟩ <;> repeat (with_reducible first | assumption | refine kCd ?_ | refine kCa ?_))) (fun hH => ?_)
                      replace hHeld := hH (by kernel_rfl)
                      clear hK K hH
                      replace hs1 := hHeld.1; replace hs2 := hHeld.2
                      try simp only [Act.put, List.setIfInBounds_toArray, List.set_cons_zero, List.set_cons_succ]
                      refine wpAnyP_ready (rs := [9]) (by kernel_rfl) (by simp) ?_
                      refine AllReadyP.cons (o := _) rfl (fun K hK => ?_) ?_
                      rotate_left
                      exact AllReadyP.nil
                      go_simp
                      refine hK.out _ _ (fun _ => (by refine ⟨?_, ?_⟩ <;> repeat (with_reducible first | assumption | refine kCd ?_ | refine kCa ?_))) (fun hH => ?_)
                      replace hHeld := hH (by kernel_rfl)
                      clear hK K hH
                      replace hs1 := hHeld.1; replace hs2 := hHeld.2
                      try simp only [Act.put, List.setIfInBounds_toArray, List.set_cons_zero, List.set_cons_succ]
                      refine wpAnyP_ready (rs := [10]) (by kernel_rfl) (by simp) ?_
                      refine AllReadyP.cons (o := _) rfl (fun K hK => ?_) ?_
                      rotate_left
                      exact AllReadyP.nil
                      refine step_append_where .u64 _ rfl (.tmp 132) (.tmp 133) 22 rfl 0 28 8 Tryz.underlying22 Tryz.infoU64 x2 n2 c2 f2 rfl ?o1 _ 0 1 1 (fun _ => 1) rfl ?r1 ?p0 ?p1 ?p2 ?p3 _ rfl ?_
                      case o1 => repeat (with_reducible first | exact OA.out | refine kOwd ?_ | refine kOwa ?_)
                      case r1 => repeat (with_reducible first | (refine rd_newE ?_; (simp <;> fail)) | refine kR9d ?_ | refine kR9a ?_)
                      case p0 => omega
                      case p1 => unfold maxLen; omega
                      case p2 => omega
                      case p3 => omega
                      intro ga ca w5 hxa hgra hwa
                      obtain ⟨KA, hc5, OB, hz5⟩ := T1.out _ w5 ga ca (by repeat (with_reducible first | exact KQ.out | refine KG.drew ?_ | refine KG.alloc9 ?_)) hgra hxa hwa
                      have HKA := hid KA; have HOB := hid OB; have HGR := hid hgra
                      clear KA OB hxa hwa hgra
                      refine hK.out _ _ (fun _ => hc5) (fun hH => ?_)
                      replace hHeld := hH (by kernel_rfl)
                      clear hK K hH
                      replace hs1 := hHeld.1; replace hs2 := hHeld.2
                      simp only [List.getElem_toArray, List.getElem_cons_succ, List.getElem_cons_zero, Act.put, List.setIfInBounds_toArray, List.set_cons_zero, List.set_cons_succ]
                      refine wpAnyP_ready (rs := [17]) (by kernel_rfl) (by simp) ?_
                      refine AllReadyP.cons (o := _) rfl (fun K hK => ?_) ?_
                      rotate_left
                      exact AllReadyP.nil
                      refine step_append_where .u64 _ rfl (.tmp 139) (.tmp 140) 22 rfl 0 28 8 Tryz.underlying22 Tryz.infoU64 y2 m2 d2 h2 rfl ?o1 _ 0 1 1 (fun _ => 2) rfl ?r1 ?p0 ?p1 ?p2 ?p3 _ rfl ?_
                      case o1 => repeat (with_reducible first | exact HOB.out | refine kOwd ?_ | refine kOwa ?_)
                      case r1 => repeat (with_reducible first | (refine rd_newE ?_; (simp <;> fail)) | refine kR9d ?_ | refine kR9a ?_ | refine kRg HGR.out (fun q hq => by have := HXL.out q hq; (try simp at this); (first | omega | (simp; omega))) ?_)
                      case p0 => omega
                      case p1 => unfold maxLen; omega
                      case p2 => omega
                      case p3 => omega
                      intro gb cb w8 hxb hgrb hwb
                      obtain ⟨KB, hc8, hf8⟩ := T2.out _ w8 ga ca gb cb (by repeat (with_reducible first | exact HKA.out | refine KG.drew ?_ | refine KG.alloc9 ?_)) hgrb hxb hwb
                      have HKB := hid KB
                      clear KB hxb hwb hgrb HKA HOB HGR
                      refine hK.out _ _ (fun _ => hc8) (fun hH => ?_)
                      replace hHeld := hH (by kernel_rfl)
                      clear hK K hH
                      replace hs1 := hHeld.1; replace hs2 := hHeld.2
                      simp only [List.getElem_toArray, List.getElem_cons_succ, List.getElem_cons_zero, Act.put, List.setIfInBounds_toArray, List.set_cons_zero, List.set_cons_succ]
                      have k21 := hc8.1; have k22 := hc8.2; have uf1 := hf8 (i * 3 + 1); have uf2 := hf8 (i * 3 + 2)
                      refine wpAnyP_skim (i := 18) (v := ?_) rfl (by kernel_rfl) (by kernel_rfl) (by kernel_rfl) (by kernel_rfl) (fun _ _ _ h => h) (Or.inl ⟨by rfl, ?_⟩) (fun _ => by assumption) ?_
                      rotate_left
                      (focus (intro w0 hSw; go_simp <;> with_reducible rfl))
                      simp only [List.getElem_toArray, List.getElem_cons_succ, List.getElem_cons_zero, Act.put, List.setIfInBounds_toArray, List.set_cons_zero, List.set_cons_succ]
                      refine wpAnyP_skim (i := 19) (v := ?_) rfl (by kernel_rfl) (by kernel_rfl) (by kernel_rfl) (by kernel_rfl) (fun _ _ _ h => h) (Or.inl ⟨by rfl, ?_⟩) (fun _ => by assumption) ?_
                      rotate_left
                      (focus (intro w0 hSw; go_simp <;> with_reducible rfl))
                      simp only [List.getElem_toArray, List.getElem_cons_succ, List.getElem_cons_zero, Act.put, List.setIfInBounds_toArray, List.set_cons_zero, List.set_cons_succ]
                      refine wpAnyP_ready (rs := [20]) (by kernel_rfl) (by simp) ?_
                      refine AllReadyP.cons (o := _) rfl (fun K hK => ?_) ?_
                      rotate_left
                      exact AllReadyP.nil
                      go_simp
                      refine hK.out _ _ (fun h => by cases h) (fun hH20 => ?_)
                      clear hK K hH20
                      refine wpAnyP_skim (i := 21) (v := ?_) rfl (by kernel_rfl) (by kernel_rfl) (by kernel_rfl) (by kernel_rfl) (fun _ _ _ h => h) (Or.inl ⟨by rfl, ?_⟩) (fun h => by cases h) ?_
                      rotate_left
                      (focus (intro w0 hSw; go_simp <;> with_reducible rfl))
                      simp only [List.getElem_toArray, List.getElem_cons_succ, List.getElem_cons_zero, Act.put, List.setIfInBounds_toArray, List.set_cons_zero, List.set_cons_succ]
                      refine wpAnyP_skim (i := 22) (v := ?_) rfl (by kernel_rfl) (by kernel_rfl) (by kernel_rfl) (by kernel_rfl) (fun _ _ _ h => h) (Or.inl ⟨by rfl, ?_⟩) (fun h => by cases h) ?_
                      rotate_left
                      (focus (intro w0 hSw; go_simp <;> with_reducible rfl))
                      simp only [List.getElem_toArray, List.getElem_cons_succ, List.getElem_cons_zero, Act.put, List.setIfInBounds_toArray, List.set_cons_zero, List.set_cons_succ]
                      refine wpAnyP_ready (rs := [23]) (by kernel_rfl) (by simp) ?_
                      refine AllReadyP.cons (o := _) rfl (fun K hK => ?_) ?_
                      rotate_left
                      exact AllReadyP.nil
                      go_simp
                      refine hK.out _ _ (fun h => by cases h) (fun hH23 => ?_)
                      clear hK K hH23
                      refine wpAnyP_done (by kernel_rfl) ?_ _
                      have KP := ((HKB.out.put (i := 2 * i) (by omega) ⟨some ⟨ga, 0, none⟩, n2 + 1, ca, cat f2 n2 (fun _ => 1)⟩).put (i := 2 * i + 1) (by omega) ⟨some ⟨gb, 0, none⟩, m2 + 1, cb, cat h2 m2 (fun _ => 2)⟩)
                      rw [show posR (2 * i) = i * 3 + 1 by unfold posR; omega, show posR (2 * i + 1) = i * 3 + 2 by unfold posR; omega] at KP
                      replace KP := hid KP
                      clear HKB hc8 hf8 k21 k22 uf1 uf2
                      generalize hWW : ((w8.setCell ⟨g2, i * 3 + 1, none⟩ (.slice (some ⟨ga, 0, none⟩) (n2 + 1) ca)).setCell ⟨g2, i * 3 + 2, none⟩ (.slice (some ⟨gb, 0, none⟩) (m2 + 1) cb)) = W9 at KP
                      have HWW := hid hWW
                      clear hWW
                      obtain ⟨ka, pa, qa, kb, pb, qb, l1, l2, u1, u2, u3, u4⟩ := marks9 (AA.out.t2 HK.out.1 KP.out.tur).1 HK.out.2 hlt2
                      have i8 : ((ka : Nat) : Int) < ((ka + 1 : Nat) : Int) := by omega
                      have i9 : ((kb : Nat) : Int) < ((kb + 1 : Nat) : Int) := by omega
                      go_wp2_with fail
                      try rw [HWW.out]
                      clear HWW
                      go_quiet (fail)
                      go_wp2
                      go_roundw
                      case rel =>
                        refine ⟨i + 1, _, by omega, by go_num, KP.out.drewN _, fun j hj hj16 => ?_⟩
                        rw [updL_other _ _ _ _ (by omega), updL_other _ _ _ _ (by omega)]; exact HOld.out j (by omega) hj16
                      case measure => simp [intOf]; omega
                    exact AllReadyP.nil
                · have j9 : ¬ (((i : Nat) : Int) < 8) := by omega
                  obtain ⟨T1, T3, hI, hB⟩ := AA.out.t2 HK.out.1 HK2.out.1.tur
                  have BF := hid (B8.out.trans (hB.mono S5.out))
                  have I8 := hid hI
                  clear T1 T3 hI hB HK HK2
                  obtain ⟨za, a0, a1, a2⟩ := I8.out.ba
                  obtain ⟨zb, b0, b1, b2⟩ := I8.out.bb
                  obtain ⟨z7, x0, x1, x2⟩ := I8.out.bx
                  obtain ⟨z8, y0, y1, y2⟩ := I8.out.bz
                  go_wp2_with fail
                  refine (rSame_self I8.out.rx.rx I8.out.rx.ry I8.out.ra.rx I8.out.ra.ry (by omega) (by omega)).mono ?_
                  rintro e w19 ⟨rfl, hb19⟩
                  have I9 := hid (I8.out.below hb19); have BF2 := hid (BF.out.trans (hb19.mono BF.out.size))
                  clear hb19 I8 BF a0 a1 a2 b0 b1 b2 x0 x1 x2 y0 y1 y2 za zb z7 z8
                  obtain ⟨za, a0, a1, a2⟩ := I9.out.ba
                  obtain ⟨zb, b0, b1, b2⟩ := I9.out.bb
                  obtain ⟨z8, y0, y1, y2⟩ := I9.out.bz
                  go_wp2_with fail
                  refine (rSame_self I9.out.rz.rx I9.out.rz.ry I9.out.rb.rx I9.out.rb.ry (by omega) (by omega)).mono ?_
                  rintro e w20 ⟨rfl, hb20⟩
                  have I10 := hid (I9.out.below hb20); have BF := hid (BF2.out.trans (hb20.mono BF2.out.size))
                  clear hb20 I9 BF2 a0 a1 a2 b0 b1 b2 y0 y1 y2 za zb z8
                  obtain ⟨za, a0, a1, a2⟩ := I10.out.ba
                  have ca1 := (cat_rd9 I10.out.xa).2.1
                  have cb1 := (cat_rd9 I10.out.xd).2.1
                  have i5 : ((a.n : Nat) : Int) < ((a.n + 1 : Nat) : Int) := by omega
                  have i6 : ((a.m : Nat) : Int) < ((a.m + 1 : Nat) : Int) := by omega
                  go_wp2
                  go_ret
                  exact ⟨rfl, BF.out⟩
theorem ratKeeps_k (s0 : Bool) (x0 : Option Addr) (n0 c0 : Nat) (f0 : Nat → Int) (y0 : Option Addr) (m0 d0 : Nat) (g0 : Nat → Int) (s1 : Bool) (x1 : Option Addr) (n1 c1 : Nat) (f1 : Nat → Int) (y1 : Option Addr) (m1 d1 : Nat) (g1 : Nat → Int) (w : World) (h0 : Rw w x0 n0 c0 f0 y0 m0 d0 g0) (h1 : Rw w x1 n1 c1 f1 y1 m1 d1 g1) (ht : Tab w) :
    Calls Tryz.prog 3 #[.agg #[.bool s0, .slice x0 n0 c0, .slice y0 m0 d0], .agg #[.bool s1, .slice x1 n1 c1, .slice y1 m1 d1]] w fun e w' => e = .returned (.bool true) ∧ Below w.heap.size w w' :=
  ratKeeps_c ⟨s0, x0, n0, c0, f0, y0, m0, d0, g0⟩ ⟨s1, x1, n1, c1, f1, y1, m1, d1, g1⟩ w h0 h1 ht
end Go.Proofs.YtlpmfmphglgocaaGreatDoor

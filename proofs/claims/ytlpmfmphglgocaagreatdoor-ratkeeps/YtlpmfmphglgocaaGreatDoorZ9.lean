/-
  The walk of the statement ExtKeeps (written by makers/j14.py).
-/
import Derived.Test.YtlpmfmphglgocaaGreatDoorZ8
import Derived.BigQuiet
import Derived.BigRegion
import Derived.Deep.RegionHeld3
namespace Go.Proofs.YtlpmfmphglgocaaGreatDoor
open Go.RowKit

/-- A twin of a bound, of a number. -/
def TwE (i : Int) (a : Nm) (v : Value) (w : World) : Prop := ∃ x c y d, v = .agg #[.int .i64 i, .bool a.s, .slice x a.n c, .slice y a.m d] ∧ Rw w x a.n c a.f y a.m d a.g
def TwR (a : Nm) (v : Value) (w : World) : Prop := ∃ x c y d, v = .agg #[.bool a.s, .slice x a.n c, .slice y a.m d] ∧ Rw w x a.n c a.f y a.m d a.g
theorem TwE.below {i a v w w'} (h : TwE i a v w) (hb : Below w.heap.size w w') : TwE i a v w' := by
  obtain ⟨x, c, y, d, h1, h2⟩ := h
  exact ⟨x, c, y, d, h1, h2.below hb⟩
theorem TwR.below {a v w w'} (h : TwR a v w) (hb : Below w.heap.size w w') : TwR a v w' := by
  obtain ⟨x, c, y, d, h1, h2⟩ := h
  exact ⟨x, c, y, d, h1, h2.below hb⟩
/-- A box of its own. -/
def Bv (vs : List Value) (T : TypeId) (base : Nat) (v : Value) (w : World) : Prop := ∃ b, v = .pointer (some ⟨b, 0, none⟩) ∧ base ≤ b ∧ Bk w b vs T
theorem Bv.below {vs T base v w w'} (h : Bv vs T base v w) (hb : Below w.heap.size w w') : Bv vs T base v w' := by
  obtain ⟨b, h1, h2, h3⟩ := h
  exact ⟨b, h1, h2, h3.below hb⟩
theorem kCf {w w' : World} {b o : Nat} {v : Value} (h : w'.heap[b]? = w.heap[b]?) (hc : w.cell? ⟨b, o, none⟩ = some v) : w'.cell? ⟨b, o, none⟩ = some v := (World.cell?_of_block (a := ⟨b, o, none⟩) h).trans hc
theorem Bk.bx4 {w B a0 a1 a2 a3 t} (h : Bk w B [a0, a1, a2, a3] t) : Bx4 w B a0 a1 a2 a3 := ⟨h.lt, h.cell (j := 0) rfl, h.cell (j := 1) rfl, h.cell (j := 2) rfl, h.cell (j := 3) rfl⟩
theorem Bk.bx3 {w B a0 a1 a2 t} (h : Bk w B [a0, a1, a2] t) : Bx3 w B a0 a1 a2 := ⟨h.lt, h.cell (j := 0) rfl, h.cell (j := 1) rfl, h.cell (j := 2) rfl⟩
set_option maxRecDepth 100000 in
set_option maxHeartbeats 16000000 in
theorem extKeeps_n (ia : Int) (a : Nm) (ib : Int) (b r : Nm) (w : World) (ha : Rw w a.x a.n a.c a.f a.y a.m a.d a.g) (hb : Rw w b.x b.n b.c b.f b.y b.m b.d b.g) (hr : Rw w r.x r.n r.c r.f r.y r.m r.d r.g) :
    Calls Tryz.prog 4 #[.agg #[.int .i64 ia, .bool a.s, .slice a.x a.n a.c, .slice a.y a.m a.d], .agg #[.int .i64 ib, .bool b.s, .slice b.x b.n b.c, .slice b.y b.m b.d], .agg #[.bool r.s, .slice r.x r.n r.c, .slice r.y r.m r.d]] w fun e w' => e = .returned (.bool true) ∧ Below w.heap.size w w' := by
  have cxa := ha.cx; have cya := ha.cy; have cxb := hb.cx; have cyb := hb.cy; have cxr := hr.cx; have cyr := hr.cy
  have hb0 := below_alloc (below_alloc (below_alloc (Below.refl w.heap.size w) (.cells #[.int .i64 ia, .bool a.s, .slice a.x a.n a.c, .slice a.y a.m a.d] 33)) (.cells #[.int .i64 ib, .bool b.s, .slice b.x b.n b.c, .slice b.y b.m b.d] 33)) (.cells #[.bool r.s, .slice r.x r.n r.c, .slice r.y r.m r.d] 24)
  have HA := hid (ha.below hb0); have HC := hid (hb.below hb0); have HR := hid (hr.below hb0); have HB := hid hb0
  have BA := hid (((bx4_at w (.int .i64 ia) (.bool a.s) (.slice a.x a.n a.c) (.slice a.y a.m a.d) 33).alloc (.cells #[.int .i64 ib, .bool b.s, .slice b.x b.n b.c, .slice b.y b.m b.d] 33)).alloc (.cells #[.bool r.s, .slice r.x r.n r.c, .slice r.y r.m r.d] 24))
  have BB : Hid (Bx4 (((w.alloc (.cells #[.int .i64 ia, .bool a.s, .slice a.x a.n a.c, .slice a.y a.m a.d] 33)).alloc (.cells #[.int .i64 ib, .bool b.s, .slice b.x b.n b.c, .slice b.y b.m b.d] 33)).alloc (.cells #[.bool r.s, .slice r.x r.n r.c, .slice r.y r.m r.d] 24)) (w.heap.size + 1) (.int .i64 ib) (.bool b.s) (.slice b.x b.n b.c) (.slice b.y b.m b.d)) := by
    have := (bx4_at (w.alloc (.cells #[.int .i64 ia, .bool a.s, .slice a.x a.n a.c, .slice a.y a.m a.d] 33)) (.int .i64 ib) (.bool b.s) (.slice b.x b.n b.c) (.slice b.y b.m b.d) 33).alloc (.cells #[.bool r.s, .slice r.x r.n r.c, .slice r.y r.m r.d] 24)
    rw [size_alloc1] at this
    exact this
  have BR : Hid (Bx3 (((w.alloc (.cells #[.int .i64 ia, .bool a.s, .slice a.x a.n a.c, .slice a.y a.m a.d] 33)).alloc (.cells #[.int .i64 ib, .bool b.s, .slice b.x b.n b.c, .slice b.y b.m b.d] 33)).alloc (.cells #[.bool r.s, .slice r.x r.n r.c, .slice r.y r.m r.d] 24)) (w.heap.size + 1 + 1) (.bool r.s) (.slice r.x r.n r.c) (.slice r.y r.m r.d)) := by
    have := bx3_at ((w.alloc (.cells #[.int .i64 ia, .bool a.s, .slice a.x a.n a.c, .slice a.y a.m a.d] 33)).alloc (.cells #[.int .i64 ib, .bool b.s, .slice b.x b.n b.c, .slice b.y b.m b.d] 33)) (.bool r.s) (.slice r.x r.n r.c) (.slice r.y r.m r.d) 24
    rw [size_alloc1, size_alloc1] at this
    exact this
  clear ha hb hr hb0
  go_enter Tryz.func4, Tryz.ntmps4
  go_wp2_with fail
  generalize (((w.alloc (.cells #[.int .i64 ia, .bool a.s, .slice a.x a.n a.c, .slice a.y a.m a.d] 33)).alloc (.cells #[.int .i64 ib, .bool b.s, .slice b.x b.n b.c, .slice b.y b.m b.d] 33)).alloc (.cells #[.bool r.s, .slice r.x r.n r.c, .slice r.y r.m r.d] 24)) = v0 at *
  refine (eAwake_c _).mono ?_
  rintro e w1 ⟨rfl, hb⟩
  replace HB := hid (HB.out.trans (hb.mono HB.out.size)); replace HA := hid (HA.out.below hb); replace HC := hid (HC.out.below hb); replace HR := hid (HR.out.below hb); replace BA := hid (BA.out.below hb); replace BB := hid (BB.out.below hb); replace BR := hid (BR.out.below hb)
  clear hb
  obtain ⟨za, a0, a1, a2, a3⟩ := BA.out; obtain ⟨zb, b0, b1, b2, b3⟩ := BB.out; obtain ⟨zr, r0, r1, r2⟩ := BR.out
  go_wp2_with fail
  clear za a0 a1 a2 a3 zb b0 b1 b2 b3 zr r0 r1 r2
  refine (elight_c (by omega) (by omega) (by omega) (by omega)).mono ?_
  rintro e w2 ⟨rfl, hb⟩
  replace HB := hid (HB.out.trans (hb.mono HB.out.size)); replace HA := hid (HA.out.below hb); replace HC := hid (HC.out.below hb); replace HR := hid (HR.out.below hb); replace BA := hid (BA.out.below hb); replace BB := hid (BB.out.below hb); replace BR := hid (BR.out.below hb)
  clear hb
  cases hlg : (lg a.n a.m 20 && lg b.n b.m 20)
  · go_wp2
    go_ret
    exact ⟨rfl, HB.out⟩
  have hlen : (a.n ≤ 20 ∧ a.m ≤ 20) ∧ b.n ≤ 20 ∧ b.m ≤ 20 := by simpa [lg] using hlg
  obtain ⟨⟨hna, hma⟩, hnb, hmb⟩ := hlen
  clear hlg
  obtain ⟨za, a0, a1, a2, a3⟩ := BA.out; obtain ⟨zb, b0, b1, b2, b3⟩ := BB.out; obtain ⟨zr, r0, r1, r2⟩ := BR.out
  go_wp2_with fail
  clear za a0 a1 a2 a3 zb b0 b1 b2 b3 zr r0 r1 r2
  refine (rLight_c _ _ _ _ _ _ _ _ (by omega) (by omega)).mono ?_
  rintro e w3 ⟨rfl, hb⟩
  replace HB := hid (HB.out.trans (hb.mono HB.out.size)); replace HA := hid (HA.out.below hb); replace HC := hid (HC.out.below hb); replace HR := hid (HR.out.below hb); replace BA := hid (BA.out.below hb); replace BB := hid (BB.out.below hb); replace BR := hid (BR.out.below hb)
  clear hb
  cases hlg : lg r.n r.m 20
  · go_wp2
    go_ret
    exact ⟨rfl, HB.out⟩
  have hlen : r.n ≤ 20 ∧ r.m ≤ 20 := by simpa [lg] using hlg
  obtain ⟨hnr, hmr⟩ := hlen
  clear hlg
  go_upto_region 5 with fail
  have hbd := Below.drew (Below.refl w3.heap.size w3)
  replace HB := hid (HB.out.trans (hbd.mono HB.out.size)); replace HA := hid (HA.out.below hbd); replace HC := hid (HC.out.below hbd); replace HR := hid (HR.out.below hbd); replace BA := hid (BA.out.below hbd); replace BB := hid (BB.out.below hbd); replace BR := hid (BR.out.below hbd)
  clear hbd
  obtain ⟨za, a0, a1, a2, a3⟩ := BA.out; obtain ⟨zb, b0, b1, b2, b3⟩ := BB.out; obtain ⟨zr, r0, r1, r2⟩ := BR.out
  refine wp_region_held_drew (S := (fun w' => w'.cell? ⟨w.heap.size, 0, none⟩ = some (.int .i64 ia) ∧ w'.cell? ⟨w.heap.size, 1, none⟩ = some (.bool a.s) ∧ w'.cell? ⟨w.heap.size, 2, none⟩ = some (.slice a.x a.n a.c) ∧ w'.cell? ⟨w.heap.size, 3, none⟩ = some (.slice a.y a.m a.d) ∧ w'.cell? ⟨w.heap.size + 1, 0, none⟩ = some (.int .i64 ib) ∧ w'.cell? ⟨w.heap.size + 1, 1, none⟩ = some (.bool b.s) ∧ w'.cell? ⟨w.heap.size + 1, 2, none⟩ = some (.slice b.x b.n b.c) ∧ w'.cell? ⟨w.heap.size + 1, 3, none⟩ = some (.slice b.y b.m b.d) ∧ w'.cell? ⟨w.heap.size + 1 + 1, 0, none⟩ = some (.bool r.s) ∧ w'.cell? ⟨w.heap.size + 1 + 1, 1, none⟩ = some (.slice r.x r.n r.c) ∧ w'.cell? ⟨w.heap.size + 1 + 1, 2, none⟩ = some (.slice r.y r.m r.d))) (by kernel_rfl) ?_ (fun hHeld => ?_)
  · exact ⟨a0, a1, a2, a3, b0, b1, b2, b3, r0, r1, r2⟩
  generalize w3.drew = wd at *
  clear za a0 a1 a2 a3 zb b0 b1 b2 b3 zr r0 r1 r2
  have C1 : Hid (∀ W, Below wd.heap.size wd W → Calls Tryz.prog 14 #[.agg #[.int .i64 ia, .bool a.s, .slice a.x a.n a.c, .slice a.y a.m a.d]] W fun e w' => ∃ v, e = .returned v ∧ Below W.heap.size W w' ∧ TwE ia a v w') := fun W hW => (xTwin_c (HA.out.below hW) (by omega) (by omega)).mono (fun _ _ ⟨x, c, y, d, e1, e2, e3⟩ => ⟨_, e1, e2, x, c, y, d, rfl, e3⟩)
  have C2 : Hid (∀ W, Below wd.heap.size wd W → Calls Tryz.prog 14 #[.agg #[.int .i64 ib, .bool b.s, .slice b.x b.n b.c, .slice b.y b.m b.d]] W fun e w' => ∃ v, e = .returned v ∧ Below W.heap.size W w' ∧ TwE ib b v w') := fun W hW => (xTwin_c (HC.out.below hW) (by omega) (by omega)).mono (fun _ _ ⟨x, c, y, d, e1, e2, e3⟩ => ⟨_, e1, e2, x, c, y, d, rfl, e3⟩)
  have C3 : Hid (∀ W, Below wd.heap.size wd W → Calls Tryz.prog 7 #[.agg #[.bool r.s, .slice r.x r.n r.c, .slice r.y r.m r.d]] W fun e w' => ∃ v, e = .returned v ∧ Below W.heap.size W w' ∧ TwR r v w') := fun W hW => (qTwin_c (HR.out.below hW) (by omega) (by omega)).mono (fun _ _ ⟨x, c, y, d, e1, e2, e3⟩ => ⟨_, e1, e2, x, c, y, d, rfl, e3⟩)
  refine wpAnyH_take (i := 0) (v := ?_) rfl (by kernel_rfl) (by kernel_rfl) (by kernel_rfl) (fun _ _ _ h => h) (Or.inl ⟨by rfl, ?_⟩) (by assumption) ?_
  rotate_left
  (focus (intro w0 hSw; (try dsimp only at hSw); go_simp <;> with_reducible rfl))
  simp only [List.getElem_toArray, List.getElem_cons_zero, Act.put, List.setIfInBounds_toArray, List.set_cons_zero, List.set_cons_succ]
  refine wpAnyH_take (i := 2) (v := ?_) rfl (by kernel_rfl) (by kernel_rfl) (by kernel_rfl) (fun _ _ _ h => h) (Or.inl ⟨by rfl, ?_⟩) (by assumption) ?_
  rotate_left
  (focus (intro w0 hSw; (try dsimp only at hSw); go_simp <;> with_reducible rfl))
  simp only [List.getElem_toArray, List.getElem_cons_succ, List.getElem_cons_zero, Act.put, List.setIfInBounds_toArray, List.set_cons_zero, List.set_cons_succ]
  refine wpAnyH_take (i := 4) (v := ?_) rfl (by kernel_rfl) (by kernel_rfl) (by kernel_rfl) (fun _ _ _ h => h) (Or.inl ⟨by rfl, ?_⟩) (by assumption) ?_
  rotate_left
  (focus (intro w0 hSw; (try dsimp only at hSw); go_simp <;> with_reducible rfl))
  simp only [List.getElem_toArray, List.getElem_cons_succ, List.getElem_cons_zero, Act.put, List.setIfInBounds_toArray, List.set_cons_zero, List.set_cons_succ]
  have boxed : ∀ {w : World} (j : Nat) (v : Value), [1, 3, 5, 6, 7, 8].contains j = true → (match j with | 1 => TwE ia a v w | 3 => TwE ib b v w | 5 => TwR r v w | 6 => Bv [.int .i64 0, .bool false, .slice none 0 0, .slice none 0 0] 33 wd.heap.size v w | 7 => Bv [.int .i64 0, .bool false, .slice none 0 0, .slice none 0 0] 33 wd.heap.size v w | 8 => Bv [.bool false, .slice none 0 0, .slice none 0 0] 24 wd.heap.size v w | _ => True) → 6 ≤ j → ∃ B, v = .pointer (some ⟨B, 0, none⟩) ∧ B < w.heap.size := by
    intro w j v hF hG hj
    have hj3 : j = 6 ∨ j = 7 ∨ j = 8 := by
      have := List.contains_iff_mem.1 hF
      simp at this
      omega
    rcases hj3 with rfl | rfl | rfl
    all_goals
      obtain ⟨B, e, _, h⟩ := hG
      exact ⟨B, e, h.lt⟩
  refine (show wpAnyH _ _ _ _ _ (6 + 3) _ _ _ from wpAnyH_flowX (fun j v w => match j with | 1 => TwE ia a v w | 3 => TwE ib b v w | 5 => TwR r v w | 6 => Bv [.int .i64 0, .bool false, .slice none 0 0, .slice none 0 0] 33 wd.heap.size v w | 7 => Bv [.int .i64 0, .bool false, .slice none 0 0, .slice none 0 0] 33 wd.heap.size v w | 8 => Bv [.bool false, .slice none 0 0, .slice none 0 0] 24 wd.heap.size v w | _ => True) (fun i j v z => 6 ≤ i ∧ 6 ≤ j → v ≠ z) [(1, 29), (3, 31), (5, 33), (6, 7), (7, 8), (8, 9)] [1, 3, 5, 6, 7, 8] [9, 10, 11] _ _ _ 3 ?k1 ?k4 ?k2 ?k3 ?k5 ?k6 ?k8)
  case k1 => kernel_rfl
  case k4 => kernel_rfl
  case k2 => exact fun w w' h hb => ⟨kCb hb h.1, kCb hb h.2.1, kCb hb h.2.2.1, kCb hb h.2.2.2.1, kCb hb h.2.2.2.2.1, kCb hb h.2.2.2.2.2.1, kCb hb h.2.2.2.2.2.2.1, kCb hb h.2.2.2.2.2.2.2.1, kCb hb h.2.2.2.2.2.2.2.2.1, kCb hb h.2.2.2.2.2.2.2.2.2.1, kCb hb h.2.2.2.2.2.2.2.2.2.2⟩
  case k3 =>
    intro j v w w' h hb
    split at h <;> first | exact TwE.below h hb | exact TwR.below h hb | exact Bv.below h hb | trivial
  case k8 => exact hHeld
  case k5 =>
    intro i hi
    simp only [List.mem_cons, List.not_mem_nil, or_false] at hi
    rcases hi with rfl | rfl | rfl | rfl | rfl | rfl
    · refine ⟨_, rfl, fun u w5 hS hb5 hd K hK => ?_⟩
      simp only [fill, List.foldl_cons, List.foldl_nil, Act.put, List.setIfInBounds_toArray, List.set_cons_zero, List.set_cons_succ] at hK ⊢
      go_simp
      go_at_call 14
      refine (C1.out _ hb5).mono ?_
      rintro e w6 ⟨v6, rfl, hb6, hq⟩
      (try go_wp2_with fail)
      exact hK.out _ _ hb6 hq (fun j z _ _ _ => ⟨fun h => absurd h.1 (by decide), fun h => absurd h.2 (by decide)⟩)
    · refine ⟨_, rfl, fun u w5 hS hb5 hd K hK => ?_⟩
      simp only [fill, List.foldl_cons, List.foldl_nil, Act.put, List.setIfInBounds_toArray, List.set_cons_zero, List.set_cons_succ] at hK ⊢
      go_simp
      go_at_call 14
      refine (C2.out _ hb5).mono ?_
      rintro e w6 ⟨v6, rfl, hb6, hq⟩
      (try go_wp2_with fail)
      exact hK.out _ _ hb6 hq (fun j z _ _ _ => ⟨fun h => absurd h.1 (by decide), fun h => absurd h.2 (by decide)⟩)
    · refine ⟨_, rfl, fun u w5 hS hb5 hd K hK => ?_⟩
      simp only [fill, List.foldl_cons, List.foldl_nil, Act.put, List.setIfInBounds_toArray, List.set_cons_zero, List.set_cons_succ] at hK ⊢
      go_simp
      go_at_call 7
      refine (C3.out _ hb5).mono ?_
      rintro e w6 ⟨v6, rfl, hb6, hq⟩
      (try go_wp2_with fail)
      exact hK.out _ _ hb6 hq (fun j z _ _ _ => ⟨fun h => absurd h.1 (by decide), fun h => absurd h.2 (by decide)⟩)
    · refine ⟨_, rfl, fun u w5 hS hb5 hd K hK => ?_⟩
      simp only [fill, List.foldl_cons, List.foldl_nil, Act.put, List.setIfInBounds_toArray, List.set_cons_zero, List.set_cons_succ] at hK ⊢
      go_simp
      exact hK.out _ _ (below_alloc (Below.refl _ _) _) ⟨w5.heap.size, rfl, hb5.size, bk_new w5 [.int .i64 0, .bool false, .slice none 0 0, .slice none 0 0] _⟩ (fun j z hF _ hG => have hd := boxed j z hF hG; ⟨fun h e => by obtain ⟨B, e2, hB⟩ := hd h.2; subst e2; injection e with e; injection e with e; injection e with e; omega, fun h e => by obtain ⟨B, e2, hB⟩ := hd h.1; subst e2; injection e with e; injection e with e; injection e with e; omega⟩)
    · refine ⟨_, rfl, fun u w5 hS hb5 hd K hK => ?_⟩
      simp only [fill, List.foldl_cons, List.foldl_nil, Act.put, List.setIfInBounds_toArray, List.set_cons_zero, List.set_cons_succ] at hK ⊢
      go_simp
      exact hK.out _ _ (below_alloc (Below.refl _ _) _) ⟨w5.heap.size, rfl, hb5.size, bk_new w5 [.int .i64 0, .bool false, .slice none 0 0, .slice none 0 0] _⟩ (fun j z hF _ hG => have hd := boxed j z hF hG; ⟨fun h e => by obtain ⟨B, e2, hB⟩ := hd h.2; subst e2; injection e with e; injection e with e; injection e with e; omega, fun h e => by obtain ⟨B, e2, hB⟩ := hd h.1; subst e2; injection e with e; injection e with e; injection e with e; omega⟩)
    · refine ⟨_, rfl, fun u w5 hS hb5 hd K hK => ?_⟩
      simp only [fill, List.foldl_cons, List.foldl_nil, Act.put, List.setIfInBounds_toArray, List.set_cons_zero, List.set_cons_succ] at hK ⊢
      go_simp
      exact hK.out _ _ (below_alloc (Below.refl _ _) _) ⟨w5.heap.size, rfl, hb5.size, bk_new w5 [.bool false, .slice none 0 0, .slice none 0 0] _⟩ (fun j z hF _ hG => have hd := boxed j z hF hG; ⟨fun h e => by obtain ⟨B, e2, hB⟩ := hd h.2; subst e2; injection e with e; injection e with e; injection e with e; omega, fun h e => by obtain ⟨B, e2, hB⟩ := hd h.1; subst e2; injection e with e; injection e with e; injection e with e; omega⟩)
  case k6 =>
    intro u w5 hS5 hb5 hg hx
    obtain ⟨xp, cp, yp, dp, e1, hp2⟩ : TwE ia a (u 1) w5 := hg 1 (by simp)
    obtain ⟨xq, cq, yq, dq, e3, hq2⟩ : TwE ib b (u 3) w5 := hg 3 (by simp)
    obtain ⟨xs, cs, ys, ds, e5, hs2⟩ : TwR r (u 5) w5 := hg 5 (by simp)
    obtain ⟨g7, e6, hgeg7, k7⟩ : Bv [.int .i64 0, .bool false, .slice none 0 0, .slice none 0 0] 33 wd.heap.size (u 6) w5 := hg 6 (by simp)
    obtain ⟨g8, e7, hgeg8, k8⟩ : Bv [.int .i64 0, .bool false, .slice none 0 0, .slice none 0 0] 33 wd.heap.size (u 7) w5 := hg 7 (by simp)
    obtain ⟨g9, e8, hgeg9, k9⟩ : Bv [.bool false, .slice none 0 0, .slice none 0 0] 24 wd.heap.size (u 8) w5 := hg 8 (by simp)
    have n78 : g7 ≠ g8 := fun e => hx 6 7 (by simp) (by simp) (by decide) ⟨by decide, by decide⟩ (by rw [e6, e7, e])
    have n79 : g7 ≠ g9 := fun e => hx 6 8 (by simp) (by simp) (by decide) ⟨by decide, by decide⟩ (by rw [e6, e8, e])
    have n89 : g8 ≠ g9 := fun e => hx 7 8 (by simp) (by simp) (by decide) ⟨by decide, by decide⟩ (by rw [e7, e8, e])
    have hzz := BR.out.z
    clear hg hx boxed C1 C2 C3 hHeld
    simp only [fill, List.foldl_cons, List.foldl_nil, Act.put, List.setIfInBounds_toArray, List.set_cons_zero, List.set_cons_succ]
    simp only [e1, e3, e5, e6, e7, e8]
    clear e1 e3 e5 e6 e7 e8
    refine wpAnyH_ready (rs := [9]) (by kernel_rfl) (by simp) ?_
    refine AllReadyH.cons (o := _) rfl (fun K hK => ?_) ?_
    rotate_left
    exact AllReadyH.nil
    have l0 := k7.cell (j := 0) rfl
    have l1 := k7.cell (j := 1) rfl
    have l2 := k7.cell (j := 2) rfl
    have l3 := k7.cell (j := 3) rfl
    have ff := k7.frozen
    go_simp
    obtain ⟨hx1, hx2, hx3⟩ := st_new [.int .i64 ia, .bool a.s, .slice xp a.n cp, .slice yp a.m dp] k7 (nou_list (fun u hu q => by simp at hu; rcases hu with rfl | rfl | rfl <;> simp)) hb5 hgeg7
    have Ng7 := stl_bk [.int .i64 ia, .bool a.s, .slice xp a.n cp, .slice yp a.m dp] _ 0 _ rfl k7
    obtain ⟨w11, hw9⟩ : ∃ x, stl g7 0 [.int .i64 ia, .bool a.s, .slice xp a.n cp, .slice yp a.m dp] w5 = x := ⟨_, rfl⟩
    rw [show ((((w5.setCell ⟨g7, 0, none⟩ (.int .i64 ia)).setCell ⟨g7, 1, none⟩ (.bool a.s)).setCell ⟨g7, 2, none⟩ (.slice xp a.n cp)).setCell ⟨g7, 3, none⟩ (.slice yp a.m dp)) = w11 from hw9]
    rw [hw9] at hx1 hx2 hx3 Ng7
    replace Ng7 : Bk w11 g7 [.int .i64 ia, .bool a.s, .slice xp a.n cp, .slice yp a.m dp] _ := Ng7
    replace hb5 := hx1
    replace hp2 := hp2.kp hx2; replace hq2 := hq2.kp hx2; replace hs2 := hs2.kp hx2
    replace k8 := k8.of (hx3 _ (fun e => n78 e.symm)); replace k9 := k9.of (hx3 _ (fun e => n79 e.symm))
    replace hS5 : (fun w' => w'.cell? ⟨w.heap.size, 0, none⟩ = some (.int .i64 ia) ∧ w'.cell? ⟨w.heap.size, 1, none⟩ = some (.bool a.s) ∧ w'.cell? ⟨w.heap.size, 2, none⟩ = some (.slice a.x a.n a.c) ∧ w'.cell? ⟨w.heap.size, 3, none⟩ = some (.slice a.y a.m a.d) ∧ w'.cell? ⟨w.heap.size + 1, 0, none⟩ = some (.int .i64 ib) ∧ w'.cell? ⟨w.heap.size + 1, 1, none⟩ = some (.bool b.s) ∧ w'.cell? ⟨w.heap.size + 1, 2, none⟩ = some (.slice b.x b.n b.c) ∧ w'.cell? ⟨w.heap.size + 1, 3, none⟩ = some (.slice b.y b.m b.d) ∧ w'.cell? ⟨w.heap.size + 1 + 1, 0, none⟩ = some (.bool r.s) ∧ w'.cell? ⟨w.heap.size + 1 + 1, 1, none⟩ = some (.slice r.x r.n r.c) ∧ w'.cell? ⟨w.heap.size + 1 + 1, 2, none⟩ = some (.slice r.y r.m r.d)) w11 := ⟨kCf (hx3 _ (by omega)) hS5.1, kCf (hx3 _ (by omega)) hS5.2.1, kCf (hx3 _ (by omega)) hS5.2.2.1, kCf (hx3 _ (by omega)) hS5.2.2.2.1, kCf (hx3 _ (by omega)) hS5.2.2.2.2.1, kCf (hx3 _ (by omega)) hS5.2.2.2.2.2.1, kCf (hx3 _ (by omega)) hS5.2.2.2.2.2.2.1, kCf (hx3 _ (by omega)) hS5.2.2.2.2.2.2.2.1, kCf (hx3 _ (by omega)) hS5.2.2.2.2.2.2.2.2.1, kCf (hx3 _ (by omega)) hS5.2.2.2.2.2.2.2.2.2.1, kCf (hx3 _ (by omega)) hS5.2.2.2.2.2.2.2.2.2.2⟩
    clear hw9 ff hx1 hx2 hx3 k7 l0 l1 l2 l3
    refine hK.out _ _ hS5 (fun hH9 => ?_)
    clear hK K hH9
    try simp only [Act.put]
    refine wpAnyH_ready (rs := [10]) (by kernel_rfl) (by simp) ?_
    refine AllReadyH.cons (o := _) rfl (fun K hK => ?_) ?_
    rotate_left
    exact AllReadyH.nil
    have l0 := k8.cell (j := 0) rfl
    have l1 := k8.cell (j := 1) rfl
    have l2 := k8.cell (j := 2) rfl
    have l3 := k8.cell (j := 3) rfl
    have ff := k8.frozen
    go_simp
    obtain ⟨hx1, hx2, hx3⟩ := st_new [.int .i64 ib, .bool b.s, .slice xq b.n cq, .slice yq b.m dq] k8 (nou_list (fun u hu q => by simp at hu; rcases hu with rfl | rfl | rfl <;> simp)) hb5 hgeg8
    have Ng8 := stl_bk [.int .i64 ib, .bool b.s, .slice xq b.n cq, .slice yq b.m dq] _ 0 _ rfl k8
    obtain ⟨w12, hw9⟩ : ∃ x, stl g8 0 [.int .i64 ib, .bool b.s, .slice xq b.n cq, .slice yq b.m dq] w11 = x := ⟨_, rfl⟩
    rw [show ((((w11.setCell ⟨g8, 0, none⟩ (.int .i64 ib)).setCell ⟨g8, 1, none⟩ (.bool b.s)).setCell ⟨g8, 2, none⟩ (.slice xq b.n cq)).setCell ⟨g8, 3, none⟩ (.slice yq b.m dq)) = w12 from hw9]
    rw [hw9] at hx1 hx2 hx3 Ng8
    replace Ng8 : Bk w12 g8 [.int .i64 ib, .bool b.s, .slice xq b.n cq, .slice yq b.m dq] _ := Ng8
    replace hb5 := hx1
    replace hp2 := hp2.kp hx2; replace hq2 := hq2.kp hx2; replace hs2 := hs2.kp hx2
    replace Ng7 := Ng7.of (hx3 _ (fun e => n78 e)); replace k9 := k9.of (hx3 _ (fun e => n89 e.symm))
    replace hS5 : (fun w' => w'.cell? ⟨w.heap.size, 0, none⟩ = some (.int .i64 ia) ∧ w'.cell? ⟨w.heap.size, 1, none⟩ = some (.bool a.s) ∧ w'.cell? ⟨w.heap.size, 2, none⟩ = some (.slice a.x a.n a.c) ∧ w'.cell? ⟨w.heap.size, 3, none⟩ = some (.slice a.y a.m a.d) ∧ w'.cell? ⟨w.heap.size + 1, 0, none⟩ = some (.int .i64 ib) ∧ w'.cell? ⟨w.heap.size + 1, 1, none⟩ = some (.bool b.s) ∧ w'.cell? ⟨w.heap.size + 1, 2, none⟩ = some (.slice b.x b.n b.c) ∧ w'.cell? ⟨w.heap.size + 1, 3, none⟩ = some (.slice b.y b.m b.d) ∧ w'.cell? ⟨w.heap.size + 1 + 1, 0, none⟩ = some (.bool r.s) ∧ w'.cell? ⟨w.heap.size + 1 + 1, 1, none⟩ = some (.slice r.x r.n r.c) ∧ w'.cell? ⟨w.heap.size + 1 + 1, 2, none⟩ = some (.slice r.y r.m r.d)) w12 := ⟨kCf (hx3 _ (by omega)) hS5.1, kCf (hx3 _ (by omega)) hS5.2.1, kCf (hx3 _ (by omega)) hS5.2.2.1, kCf (hx3 _ (by omega)) hS5.2.2.2.1, kCf (hx3 _ (by omega)) hS5.2.2.2.2.1, kCf (hx3 _ (by omega)) hS5.2.2.2.2.2.1, kCf (hx3 _ (by omega)) hS5.2.2.2.2.2.2.1, kCf (hx3 _ (by omega)) hS5.2.2.2.2.2.2.2.1, kCf (hx3 _ (by omega)) hS5.2.2.2.2.2.2.2.2.1, kCf (hx3 _ (by omega)) hS5.2.2.2.2.2.2.2.2.2.1, kCf (hx3 _ (by omega)) hS5.2.2.2.2.2.2.2.2.2.2⟩
    clear hw9 ff hx1 hx2 hx3 k8 l0 l1 l2 l3
    refine hK.out _ _ hS5 (fun hH9 => ?_)
    clear hK K hH9
    try simp only [Act.put]
    refine wpAnyH_ready (rs := [11]) (by kernel_rfl) (by simp) ?_
    refine AllReadyH.cons (o := _) rfl (fun K hK => ?_) ?_
    rotate_left
    exact AllReadyH.nil
    have l0 := k9.cell (j := 0) rfl
    have l1 := k9.cell (j := 1) rfl
    have l2 := k9.cell (j := 2) rfl
    have ff := k9.frozen
    go_simp
    obtain ⟨hx1, hx2, hx3⟩ := st_new [.bool r.s, .slice xs r.n cs, .slice ys r.m ds] k9 (nou_list (fun u hu q => by simp at hu; rcases hu with rfl | rfl | rfl <;> simp)) hb5 hgeg9
    have Ng9 := stl_bk [.bool r.s, .slice xs r.n cs, .slice ys r.m ds] _ 0 _ rfl k9
    obtain ⟨w13, hw9⟩ : ∃ x, stl g9 0 [.bool r.s, .slice xs r.n cs, .slice ys r.m ds] w12 = x := ⟨_, rfl⟩
    rw [show (((w12.setCell ⟨g9, 0, none⟩ (.bool r.s)).setCell ⟨g9, 1, none⟩ (.slice xs r.n cs)).setCell ⟨g9, 2, none⟩ (.slice ys r.m ds)) = w13 from hw9]
    rw [hw9] at hx1 hx2 hx3 Ng9
    replace Ng9 : Bk w13 g9 [.bool r.s, .slice xs r.n cs, .slice ys r.m ds] _ := Ng9
    replace hb5 := hx1
    replace hp2 := hp2.kp hx2; replace hq2 := hq2.kp hx2; replace hs2 := hs2.kp hx2
    replace Ng7 := Ng7.of (hx3 _ (fun e => n79 e)); replace Ng8 := Ng8.of (hx3 _ (fun e => n89 e))
    replace hS5 : (fun w' => w'.cell? ⟨w.heap.size, 0, none⟩ = some (.int .i64 ia) ∧ w'.cell? ⟨w.heap.size, 1, none⟩ = some (.bool a.s) ∧ w'.cell? ⟨w.heap.size, 2, none⟩ = some (.slice a.x a.n a.c) ∧ w'.cell? ⟨w.heap.size, 3, none⟩ = some (.slice a.y a.m a.d) ∧ w'.cell? ⟨w.heap.size + 1, 0, none⟩ = some (.int .i64 ib) ∧ w'.cell? ⟨w.heap.size + 1, 1, none⟩ = some (.bool b.s) ∧ w'.cell? ⟨w.heap.size + 1, 2, none⟩ = some (.slice b.x b.n b.c) ∧ w'.cell? ⟨w.heap.size + 1, 3, none⟩ = some (.slice b.y b.m b.d) ∧ w'.cell? ⟨w.heap.size + 1 + 1, 0, none⟩ = some (.bool r.s) ∧ w'.cell? ⟨w.heap.size + 1 + 1, 1, none⟩ = some (.slice r.x r.n r.c) ∧ w'.cell? ⟨w.heap.size + 1 + 1, 2, none⟩ = some (.slice r.y r.m r.d)) w13 := ⟨kCf (hx3 _ (by omega)) hS5.1, kCf (hx3 _ (by omega)) hS5.2.1, kCf (hx3 _ (by omega)) hS5.2.2.1, kCf (hx3 _ (by omega)) hS5.2.2.2.1, kCf (hx3 _ (by omega)) hS5.2.2.2.2.1, kCf (hx3 _ (by omega)) hS5.2.2.2.2.2.1, kCf (hx3 _ (by omega)) hS5.2.2.2.2.2.2.1, kCf (hx3 _ (by omega)) hS5.2.2.2.2.2.2.2.1, kCf (hx3 _ (by omega)) hS5.2.2.2.2.2.2.2.2.1, kCf (hx3 _ (by omega)) hS5.2.2.2.2.2.2.2.2.2.1, kCf (hx3 _ (by omega)) hS5.2.2.2.2.2.2.2.2.2.2⟩
    clear hw9 ff hx1 hx2 hx3 k9 l0 l1 l2
    refine hK.out _ _ hS5 (fun hH9 => ?_)
    clear hK K hH9
    try simp only [Act.put]
    refine wpAnyH_done (by kernel_rfl) ?_ _
    have HI : Hid (In12 w13 w.heap.size ia a ib b r ⟨a.s, xp, a.n, cp, a.f, yp, a.m, dp, a.g⟩ ⟨b.s, xq, b.n, cq, b.f, yq, b.m, dq, b.g⟩ ⟨r.s, xs, r.n, cs, r.f, ys, r.m, ds, r.g⟩ g7 g8 g9) := ⟨HA.out.below hb5, HC.out.below hb5, HR.out.below hb5, BA.out.below hb5, BB.out.below hb5, BR.out.below hb5, Ng7.bx4, Ng8.bx4, Ng9.bx3, hp2, hq2, hs2⟩
    have HW4 := hid (HB.out.trans (hb5.mono HB.out.size))
    clear HA HC HR BA BB BR HB Ng7 Ng8 Ng9 hp2 hq2 hs2 hS5 hb5 hzz n78 n79 n89 hgeg7 hgeg8 hgeg9
    obtain ⟨I, V, CA⟩ : ∃ (I : Nat → Int) (V : Nat → Option Rat), Hid (∀ (W : World) (x : Option Addr) (c : Nat) (y : Option Addr) (d : Nat) (x' : Option Addr) (c' : Nat) (y' : Option Addr) (d' : Nat) (x'' : Option Addr) (c'' : Nat) (y'' : Option Addr) (d'' : Nat), Rw W x a.n c a.f y a.m d a.g → Rw W x' b.n c' b.f y' b.m d' b.g → Rw W x'' r.n c'' r.f y'' r.m d'' r.g → Calls Tryz.prog 15 #[.agg #[.int .i64 ia, .bool a.s, .slice x a.n c, .slice y a.m d], .agg #[.int .i64 ib, .bool b.s, .slice x' b.n c', .slice y' b.m d'], .agg #[.bool r.s, .slice x'' r.n c'', .slice y'' r.m d'']] W fun e w' => ∃ gq S L, e = .returned (.slice (some ⟨gq, 0, none⟩) 8 8) ∧ Below W.heap.size W w' ∧ Hid (AnsE W w' gq I S L V)) := by
      obtain ⟨qa, hqa⟩ : ∃ q, efB ia a.s a.f a.n a.g a.m = true → En 100 w13 ia a.s a.x a.n a.c a.f a.y a.m a.d a.g q := by
        cases h : efB ia a.s a.f a.n a.g a.m
        · exact ⟨0, fun h => by cases h⟩
        · obtain ⟨q, hq⟩ := HI.out.ra.en (L := 100) h (by omega) (by omega)
          exact ⟨q, fun _ => hq⟩
      obtain ⟨qb, hqb⟩ : ∃ q, efB ib b.s b.f b.n b.g b.m = true → En 100 w13 ib b.s b.x b.n b.c b.f b.y b.m b.d b.g q := by
        cases h : efB ib b.s b.f b.n b.g b.m
        · exact ⟨0, fun h => by cases h⟩
        · obtain ⟨q, hq⟩ := HI.out.rb.en (L := 100) h (by omega) (by omega)
          exact ⟨q, fun _ => hq⟩
      obtain ⟨qr, hqr⟩ : ∃ q, rfB r.s r.f r.n r.g r.m = true → Rn 100 w13 r.s r.x r.n r.c r.f r.y r.m r.d r.g q := by
        cases h : rfB r.s r.f r.n r.g r.m
        · exact ⟨0, fun h => by cases h⟩
        · obtain ⟨q, hq⟩ := HI.out.rr.rn (L := 100) h (by omega) (by omega)
          exact ⟨q, fun _ => hq⟩
      exact ⟨_, _, fun W x c y d x' c' y' d' x'' c'' y'' d'' h1 h2 h3 => (eAnswers_c h1 h2 h3 (by omega) (by omega) (by omega) (by omega) (by omega) (by omega) rfl rfl rfl (fun h => (hqa h).moved h1) (fun h => (hqb h).moved h2) (fun h => (hqr h).moved h3) (fun _ => rfl) (fun _ => rfl)).mono (fun e w' ⟨gq, S, L, k1, k2⟩ => ⟨gq, S, L, k1, k2.bel, k2⟩)⟩
    obtain ⟨z7, x0, x1, x2, x3⟩ := HI.out.xa
    obtain ⟨z8, y0, y1, y2, y3⟩ := HI.out.xb
    obtain ⟨z9, t0, t1, t2⟩ := HI.out.xr
    have CA1 : Hid (∀ W, Below w13.heap.size w13 W → Calls Tryz.prog 15 #[.agg #[.int .i64 ia, .bool a.s, .slice xp a.n cp, .slice yp a.m dp], .agg #[.int .i64 ib, .bool b.s, .slice xq b.n cq, .slice yq b.m dq], .agg #[.bool r.s, .slice xs r.n cs, .slice ys r.m ds]] W fun e w' => ∃ gq S L, e = .returned (.slice (some ⟨gq, 0, none⟩) 8 8) ∧ Below W.heap.size W w' ∧ Hid (AnsE W w' gq I S L V)) := fun W hW =>
      CA.out W _ _ _ _ _ _ _ _ _ _ _ _ (HI.out.below hW).za (HI.out.below hW).zb (HI.out.below hW).zr
    go_upto_region 6 with fail
    go_cut [10, 11] from 34 to 41 (fun u v wx => ∃ (wy w5 w6 : World) (g1 : Nat) (S1 : Nat → Bool) (one : Nat → Ls) (g2 : Nat) (S2 : Nat → Bool) (two : Nat → Ls), wy = wx ∧ u = .slice (some ⟨g1, 0, none⟩) 8 8 ∧ v = .slice (some ⟨g2, 0, none⟩) 8 8 ∧ Hid (Below w13.heap.size w13 w5) ∧ Hid (AnsE w5 w6 g1 I S1 one V) ∧ Hid (AnsE w6 wy g2 I S2 two V))
    case first =>
      go_region_held3 (fun w' => w'.cell? ⟨g7, 0, none⟩ = some (.int .i64 ia) ∧ w'.cell? ⟨g7, 1, none⟩ = some (.bool a.s) ∧ w'.cell? ⟨g7, 2, none⟩ = some (.slice xp a.n cp) ∧ w'.cell? ⟨g7, 3, none⟩ = some (.slice yp a.m dp) ∧ w'.cell? ⟨g8, 0, none⟩ = some (.int .i64 ib) ∧ w'.cell? ⟨g8, 1, none⟩ = some (.bool b.s) ∧ w'.cell? ⟨g8, 2, none⟩ = some (.slice xq b.n cq) ∧ w'.cell? ⟨g8, 3, none⟩ = some (.slice yq b.m dq) ∧ w'.cell? ⟨g9, 0, none⟩ = some (.bool r.s) ∧ w'.cell? ⟨g9, 1, none⟩ = some (.slice xs r.n cs) ∧ w'.cell? ⟨g9, 2, none⟩ = some (.slice ys r.m ds))
        (refine ⟨?_, ?_, ?_, ?_, ?_, ?_, ?_, ?_, ?_, ?_, ?_⟩ <;> repeat (with_reducible first | assumption | refine kCd ?_ | refine kCa ?_ | refine kCb (by assumption) ?_))
        (first
          | (have h9 := HA1.out; clear h9; go_at_call 15; with_reducible refine (CA1.out _ (by repeat (with_reducible first | assumption | exact Below.refl _ _ | refine Below.drew ?_ | refine kBa ?_ | refine kBb (by assumption) ?_))).mono ?_; rintro e w7 ⟨g2, S2, two, rfl, hb7, HA2⟩)
          | (go_at_call 15; with_reducible refine (CA1.out _ (by repeat (with_reducible first | assumption | exact Below.refl _ _ | refine Below.drew ?_ | refine kBa ?_ | refine kBb (by assumption) ?_))).mono ?_; rintro e w6 ⟨g1, S1, one, rfl, hb6, HA1⟩))
      all_goals
        go_wp2_with fail
        go_meet
        exact ⟨_, _, _, g1, S1, one, g2, S2, two, rfl, rfl, rfl, hid (by repeat (with_reducible first | assumption | exact Below.refl _ _ | refine Below.drew ?_ | refine kBa ?_ | refine kBb (by assumption) ?_)), HA1, HA2⟩
    case rest =>
      obtain ⟨w7, w5, w6, g1, S1, one, g2, S2, two, rfl, rfl, rfl, HB5, HA1, HA2⟩ := hcut
      clear CA1 x0 x1 x2 x3 y0 y1 y2 y3 t0 t1 t2 z7 z8 z9
      have I7 := hid (((HI.out.below HB5.out).below HA1.out.bel).below HA2.out.bel)
      obtain ⟨za, a0, a1, a2, a3⟩ := I7.out.ba
      obtain ⟨zb, b0, b1, b2, b3⟩ := I7.out.bb
      obtain ⟨zr, r0, r1, r2⟩ := I7.out.br
      have CT1 : Hid (∀ W, Below w7.heap.size w7 W → Calls Tryz.prog 14 #[.agg #[.int .i64 ia, .bool a.s, .slice a.x a.n a.c, .slice a.y a.m a.d]] W fun e w' => ∃ x c y d, e = .returned (.agg #[.int .i64 ia, .bool a.s, .slice x a.n c, .slice y a.m d]) ∧ Below W.heap.size W w' ∧ Hid (Rw w' x a.n c a.f y a.m d a.g)) := fun W hW => xTwin_c (I7.out.below hW).ra (by omega) (by omega)
      have CT2 : Hid (∀ W, Below w7.heap.size w7 W → Calls Tryz.prog 14 #[.agg #[.int .i64 ib, .bool b.s, .slice b.x b.n b.c, .slice b.y b.m b.d]] W fun e w' => ∃ x c y d, e = .returned (.agg #[.int .i64 ib, .bool b.s, .slice x b.n c, .slice y b.m d]) ∧ Below W.heap.size W w' ∧ Hid (Rw w' x b.n c b.f y b.m d b.g)) := fun W hW => xTwin_c (I7.out.below hW).rb (by omega) (by omega)
      have CT3 : Hid (∀ W, Below w7.heap.size w7 W → Calls Tryz.prog 7 #[.agg #[.bool r.s, .slice r.x r.n r.c, .slice r.y r.m r.d]] W fun e w' => ∃ x c y d, e = .returned (.agg #[.bool r.s, .slice x r.n c, .slice y r.m d]) ∧ Below W.heap.size W w' ∧ Hid (Rw w' x r.n c r.f y r.m d r.g)) := fun W hW => qTwin_c (I7.out.below hW).rr (by omega) (by omega)
      go_upto_region 7 with fail
      go_cut [12] from 42 to 48 (fun u wx => ∃ (wy wt : World) (g3 : Nat) (S3 : Nat → Bool) (want : Nat → Ls), wy = wx ∧ u = .slice (some ⟨g3, 0, none⟩) 8 8 ∧ Hid (Below w7.heap.size w7 wt) ∧ Hid (AnsE wt wy g3 I S3 want V))
      case first =>
        go_region_held3 (fun w' => w'.cell? ⟨w.heap.size, 0, none⟩ = some (.int .i64 ia) ∧ w'.cell? ⟨w.heap.size, 1, none⟩ = some (.bool a.s) ∧ w'.cell? ⟨w.heap.size, 2, none⟩ = some (.slice a.x a.n a.c) ∧ w'.cell? ⟨w.heap.size, 3, none⟩ = some (.slice a.y a.m a.d) ∧ w'.cell? ⟨w.heap.size + 1, 0, none⟩ = some (.int .i64 ib) ∧ w'.cell? ⟨w.heap.size + 1, 1, none⟩ = some (.bool b.s) ∧ w'.cell? ⟨w.heap.size + 1, 2, none⟩ = some (.slice b.x b.n b.c) ∧ w'.cell? ⟨w.heap.size + 1, 3, none⟩ = some (.slice b.y b.m b.d) ∧ w'.cell? ⟨w.heap.size + 1 + 1, 0, none⟩ = some (.bool r.s) ∧ w'.cell? ⟨w.heap.size + 1 + 1, 1, none⟩ = some (.slice r.x r.n r.c) ∧ w'.cell? ⟨w.heap.size + 1 + 1, 2, none⟩ = some (.slice r.y r.m r.d))
          (refine ⟨?_, ?_, ?_, ?_, ?_, ?_, ?_, ?_, ?_, ?_, ?_⟩ <;> repeat (with_reducible first | assumption | refine kCd ?_ | refine kCa ?_ | refine kCb (by assumption) ?_))
          (first
            | (go_at_call 14; with_reducible refine (CT1.out _ (by repeat (with_reducible first | assumption | exact Below.refl _ _ | refine Below.drew ?_ | refine kBa ?_ | refine kBb (by assumption) ?_))).mono ?_; rintro e w9 ⟨xk, ck, yk, dk, rfl, hb9, HOa⟩)
            | (go_at_call 14; with_reducible refine (CT2.out _ (by repeat (with_reducible first | assumption | exact Below.refl _ _ | refine Below.drew ?_ | refine kBa ?_ | refine kBb (by assumption) ?_))).mono ?_; rintro e w10 ⟨xl, cl, yl, dl, rfl, hb10, HOb⟩)
            | (go_at_call 7; with_reducible refine (CT3.out _ (by repeat (with_reducible first | assumption | exact Below.refl _ _ | refine Below.drew ?_ | refine kBa ?_ | refine kBb (by assumption) ?_))).mono ?_; rintro e w14 ⟨xm, cm, ym, dm, rfl, hb14, HOc⟩)
            | (go_at_call 15; with_reducible refine (CA.out _ xk ck yk dk xl cl yl dl xm cm ym dm (by repeat (with_reducible first | exact HOa.out | refine kRwd ?_ | refine kRwb (by assumption) ?_)) (by repeat (with_reducible first | exact HOb.out | refine kRwd ?_ | refine kRwb (by assumption) ?_)) (by repeat (with_reducible first | exact HOc.out | refine kRwd ?_ | refine kRwb (by assumption) ?_))).mono ?_; rintro e w11' ⟨g3, S3, want, rfl, hb11, HA3⟩))
        all_goals
          go_wp2_with fail
          go_meet
          exact ⟨_, _, g3, S3, want, rfl, rfl, hid (by repeat (with_reducible first | assumption | exact Below.refl _ _ | refine Below.drew ?_ | refine kBa ?_ | refine kBb (by assumption) ?_)), HA3⟩
      case rest =>
        obtain ⟨w8, wt, g3, S3, want, rfl, rfl, HBt, HA3⟩ := hcut
        clear CT1 CT2 CT3 CA za a0 a1 a2 a3 zb b0 b1 b2 b3 zr r0 r1 r2 I7
        have AA := hid (all12_mk (HI.out.below HB5.out) HA1.out HA2.out HBt.out HA3.out)
        have B8 : Hid (Below w.heap.size w w8) := HW4.out.trans ((HB5.out.trans (AA.out.b48.mono HB5.out.size)).mono HW4.out.size)
        have S5 : Hid (w.heap.size ≤ w5.heap.size) := Nat.le_trans HW4.out.size HB5.out.size
        clear HA1 HA2 HA3 HBt HB5 HI HW4
        go_wp2_with fail
        go_loopw [51] (fun t wr => ∃ (i : Nat) (M : Nat → Ls), i ≤ 8 ∧ t = .int .i64 i ∧ Hid (KG 33 posE (othE I S1) 16 w5.heap.size w6.heap.size w8 wr g1 one M ∧ ∀ j, 2 * i ≤ j → j < 16 → M j = one j)) (fun t _ => 8 - (intOf t).toNat)
        case atStart => exact ⟨0, one, by omega, rfl, AA.out.k1, fun _ _ _ => rfl⟩
        case round =>
          obtain ⟨i, M, hi8, rfl, HK⟩ := hrel
          by_cases hlt : i < 8
          · obtain ⟨wr1, hwr1⟩ : ∃ x : World, x = wr := ⟨wr, rfl⟩
            subst hwr1
            obtain ⟨HKk, hold⟩ := HK.out
            obtain ⟨T2, T3, I4, _⟩ := AA.out.t1 HKk.tur
            have hLa := hold (2 * i) (Nat.le_refl _) (by omega); have hLb := hold (2 * i + 1) (by omega) (by omega)
            obtain ⟨x1, n1, c1, f1, o1e⟩ : ∃ a b c d, one (2 * i) = ⟨a, b, c, d⟩ := ⟨_, _, _, _, rfl⟩
            obtain ⟨y1, m1, d1, h1, p1e⟩ : ∃ a b c d, one (2 * i + 1) = ⟨a, b, c, d⟩ := ⟨_, _, _, _, rfl⟩
            obtain ⟨x2, n2, c2, f2, o2e⟩ : ∃ a b c d, two (2 * i) = ⟨a, b, c, d⟩ := ⟨_, _, _, _, rfl⟩
            obtain ⟨y2, m2, d2, h2, p2e⟩ : ∃ a b c d, two (2 * i + 1) = ⟨a, b, c, d⟩ := ⟨_, _, _, _, rfl⟩
            obtain ⟨x3, n3, c3, f3, o3e⟩ : ∃ a b c d, want (2 * i) = ⟨a, b, c, d⟩ := ⟨_, _, _, _, rfl⟩
            obtain ⟨y3, m3, d3, h3, p3e⟩ : ∃ a b c d, want (2 * i + 1) = ⟨a, b, c, d⟩ := ⟨_, _, _, _, rfl⟩
            obtain ⟨q1, hq1⟩ : ∃ x, S1 i = x := ⟨_, rfl⟩
            obtain ⟨q2, hq2⟩ : ∃ x, S2 i = x := ⟨_, rfl⟩
            obtain ⟨q3, hq3⟩ : ∃ x, S3 i = x := ⟨_, rfl⟩
            obtain ⟨ix, hix⟩ : ∃ x, I i = x := ⟨_, rfl⟩
            have F1 := fam_cells12 HKk.fam hlt; have F2 := fam_cells12 T2.fam hlt; have F3 := fam_cells12 T3.fam hlt
            rw [o1e, p1e, hq1, hix] at F1; rw [o2e, p2e, hq2, hix] at F2; rw [o3e, p3e, hq3, hix] at F3
            have v1 := AA.out.v1 i hlt; have v2 := AA.out.v2 i hlt; have v3 := AA.out.v3 i hlt
            rw [o1e, p1e, hq1] at v1; rw [o2e, p2e, hq2] at v2; rw [o3e, p3e, hq3] at v3
            have k1a : Lsb .u64 28 wr1 ⟨x1, n1, c1, f1⟩ := by have := HKk.own (2 * i) (by omega); rw [hLa, o1e] at this; exact this
            have k1b : Lsb .u64 28 wr1 ⟨y1, m1, d1, h1⟩ := by have := HKk.own (2 * i + 1) (by omega); rw [hLb, p1e] at this; exact this
            have k2a : Lsb .u64 28 wr1 ⟨x2, n2, c2, f2⟩ := by have := T2.own (2 * i) (by omega); rw [o2e] at this; exact this
            have k2b : Lsb .u64 28 wr1 ⟨y2, m2, d2, h2⟩ := by have := T2.own (2 * i + 1) (by omega); rw [p2e] at this; exact this
            have k3a : Lsb .u64 28 wr1 ⟨x3, n3, c3, f3⟩ := by have := T3.own (2 * i) (by omega); rw [o3e] at this; exact this
            have k3b : Lsb .u64 28 wr1 ⟨y3, m3, d3, h3⟩ := by have := T3.own (2 * i + 1) (by omega); rw [p3e] at this; exact this
            have le1 : n1 ≤ 2000 := v1.le.1
            have le2 : m1 ≤ 2000 := v1.le.2
            have CS1 : Hid (∀ W, Below wr1.heap.size wr1 W → Calls Tryz.prog 16 #[.agg #[.int .i64 ix, .bool q1, .slice x1 n1 c1, .slice y1 m1 d1], .agg #[.int .i64 ix, .bool q3, .slice x3 n3 c3, .slice y3 m3 d3]] W fun e w' => e = .returned (.bool true) ∧ Below W.heap.size W w') := fun W hW =>
              (by have h9 := eSame_v (w := W) (i := ix) v1 v3 (Own.below k1a hW) (Own.below k1b hW) (Own.below k3a hW) (Own.below k3b hW); exact h9)
            have CS2 : Hid (∀ W, Below wr1.heap.size wr1 W → Calls Tryz.prog 16 #[.agg #[.int .i64 ix, .bool q2, .slice x2 n2 c2, .slice y2 m2 d2], .agg #[.int .i64 ix, .bool q3, .slice x3 n3 c3, .slice y3 m3 d3]] W fun e w' => e = .returned (.bool true) ∧ Below W.heap.size W w') := fun W hW =>
              (by have h9 := eSame_v (w := W) (i := ix) v2 v3 (Own.below k2a hW) (Own.below k2b hW) (Own.below k3a hW) (Own.below k3b hW); exact h9)
            obtain ⟨s10, s11, s12, s13⟩ : wr1.cell? ⟨g1, i * 4, none⟩ = some (.int .i64 ix) ∧ wr1.cell? ⟨g1, i * 4 + 1, none⟩ = some (.bool q1) ∧ wr1.cell? ⟨g1, i * 4 + 2, none⟩ = some (.slice x1 n1 c1) ∧ wr1.cell? ⟨g1, i * 4 + 3, none⟩ = some (.slice y1 m1 d1) := F1
            obtain ⟨s20, s21, s22, s23⟩ : wr1.cell? ⟨g2, i * 4, none⟩ = some (.int .i64 ix) ∧ wr1.cell? ⟨g2, i * 4 + 1, none⟩ = some (.bool q2) ∧ wr1.cell? ⟨g2, i * 4 + 2, none⟩ = some (.slice x2 n2 c2) ∧ wr1.cell? ⟨g2, i * 4 + 3, none⟩ = some (.slice y2 m2 d2) := F2
            obtain ⟨s30, s31, s32, s33⟩ : wr1.cell? ⟨g3, i * 4, none⟩ = some (.int .i64 ix) ∧ wr1.cell? ⟨g3, i * 4 + 1, none⟩ = some (.bool q3) ∧ wr1.cell? ⟨g3, i * 4 + 2, none⟩ = some (.slice x3 n3 c3) ∧ wr1.cell? ⟨g3, i * 4 + 3, none⟩ = some (.slice y3 m3 d3) := F3
            have HOa := hid o1e; have HOb := hid p1e; have HMa := hid (hLa.trans o1e); have HMb := hid (hLb.trans p1e)
            clear T2 T3 I4 hLa hLb v1 v2 v3 k1a k1b k2a k2b k3a k3b o1e o2e o3e p1e p2e p3e hq1 hq2 hq3 hix HKk hold
            have i7 : ((i : Nat) : Int) < 8 := by omega
            go_upto_region 11 with fail
            go_cut [75] from 54 to 74 (fun u wx => ∃ (wy : World), wy = wx ∧ u = .bool false ∧ Below wr1.heap.size wr1 wy)
            case first =>
              go_region_held3 (fun w' => w'.cell? ⟨g1, i * 4, none⟩ = some (.int .i64 ix) ∧ w'.cell? ⟨g1, i * 4 + 1, none⟩ = some (.bool q1) ∧ w'.cell? ⟨g1, i * 4 + 2, none⟩ = some (.slice x1 n1 c1) ∧ w'.cell? ⟨g1, i * 4 + 3, none⟩ = some (.slice y1 m1 d1) ∧ w'.cell? ⟨g2, i * 4, none⟩ = some (.int .i64 ix) ∧ w'.cell? ⟨g2, i * 4 + 1, none⟩ = some (.bool q2) ∧ w'.cell? ⟨g2, i * 4 + 2, none⟩ = some (.slice x2 n2 c2) ∧ w'.cell? ⟨g2, i * 4 + 3, none⟩ = some (.slice y2 m2 d2) ∧ w'.cell? ⟨g3, i * 4, none⟩ = some (.int .i64 ix) ∧ w'.cell? ⟨g3, i * 4 + 1, none⟩ = some (.bool q3) ∧ w'.cell? ⟨g3, i * 4 + 2, none⟩ = some (.slice x3 n3 c3) ∧ w'.cell? ⟨g3, i * 4 + 3, none⟩ = some (.slice y3 m3 d3))
                (refine ⟨?_, ?_, ?_, ?_, ?_, ?_, ?_, ?_, ?_, ?_, ?_, ?_⟩ <;> repeat (with_reducible first | assumption | refine kCd ?_ | refine kCa ?_ | refine kCb (by assumption) ?_))
                (first
                  | (go_at_call 16; with_reducible refine (CS1.out _ (by repeat (with_reducible first | assumption | exact Below.refl _ _ | refine Below.drew ?_ | refine kBa ?_ | refine kBb (by assumption) ?_))).mono ?_; rintro e w12' ⟨rfl, hb12⟩)
                  | (go_at_call 16; with_reducible refine (CS2.out _ (by repeat (with_reducible first | assumption | exact Below.refl _ _ | refine Below.drew ?_ | refine kBa ?_ | refine kBb (by assumption) ?_))).mono ?_; rintro e w13' ⟨rfl, hb13⟩))
              all_goals
                go_wp2_with fail
                go_meet
                exact ⟨_, rfl, rfl, (by repeat (with_reducible first | assumption | exact Below.refl _ _ | refine Below.drew ?_ | refine kBa ?_ | refine kBb (by assumption) ?_))⟩
            case rest =>
              obtain ⟨wq, rfl, rfl, hbq⟩ := hcut
              have KQ := hid (HK.out.1.below hbq); have HOld := hid HK.out.2
              clear CS1 CS2 s10 s11 s12 s13 s20 s21 s22 s23 s30 s31 s32 s33 HK hbq
              have CEL : Hid (∀ W M, KG 33 posE (othE I S1) 16 w5.heap.size w6.heap.size w8 W g1 one M → W.cell? ⟨g1, i * 4 + 2, none⟩ = some (.slice x1 n1 c1) ∧ W.cell? ⟨g1, i * 4 + 3, none⟩ = some (.slice y1 m1 d1)) := fun W M h => by
                have FF := fam_cells12 h.fam hlt
                rw [HOa.out, HOb.out] at FF
                exact FF.2.2
              obtain ⟨s12, s13⟩ := CEL.out _ _ KQ.out
              go_wp2_with fail
              go_loopw [83] (fun t wr => ∃ (k : Nat) (M' : Nat → Ls) (f' : Nat → Int), k ≤ n1 ∧ t = .int .i64 k ∧ Hid (KG 33 posE (othE I S1) 16 w5.heap.size w6.heap.size w8 wr g1 one M' ∧ M' (2 * i) = ⟨x1, n1, c1, f'⟩ ∧ ∀ j, 2 * i + 1 ≤ j → j < 16 → M' j = one j)) (fun t _ => n1 - (intOf t).toNat)
              case atStart => exact ⟨0, M, f1, by omega, rfl, KQ.out, HMa.out, fun j h1 h2 => HOld.out j (by omega) h2⟩
              case round =>
                clear s12 s13 KQ HOld HMa HMb
                obtain ⟨k, M', f', hk, rfl, HK3⟩ := hrel
                obtain ⟨s12, s13⟩ := CEL.out _ _ HK3.out.1
                by_cases hkl : k < n1
                · obtain ⟨gx, hxe, hcl, hfz⟩ := HK3.out.1.limb (by omega) HK3.out.2.1 hkl
                  subst hxe
                  have KP := hid (HK3.out.1.poke (by omega) HK3.out.2.1 hkl (100 * (i : Int) + (k : Int)))
                  have HR3 := hid HK3.out.2.2
                  clear HK3 CEL
                  have k7 : ((k : Nat) : Int) < ((n1 : Nat) : Int) := by omega
                  have k8 : ((k : Nat) : Int) < 2000 := by omega
                  go_wp2
                  go_roundw
                  case rel => exact ⟨k + 1, _, _, by omega, by go_num, KP.out, updL_same _ _ _, fun j j1 j2 => by rw [updL_other _ _ _ _ (by omega)]; exact HR3.out j j1 j2⟩
                  case measure => simp [intOf]; omega
                · have k9 : ¬ (((k : Nat) : Int) < ((n1 : Nat) : Int)) := by omega
                  have HM2 : Hid (M' (2 * i + 1) = ⟨y1, m1, d1, h1⟩) := (HK3.out.2.2 (2 * i + 1) (Nat.le_refl _) (by omega)).trans HOb.out
                  go_wp2_with fail
                  go_loopw [107] (fun t wr => ∃ (k : Nat) (M' : Nat → Ls) (f' : Nat → Int), k ≤ m1 ∧ t = .int .i64 k ∧ Hid (KG 33 posE (othE I S1) 16 w5.heap.size w6.heap.size w8 wr g1 one M' ∧ M' (2 * i + 1) = ⟨y1, m1, d1, f'⟩ ∧ ∀ j, 2 * i + 2 ≤ j → j < 16 → M' j = one j)) (fun t _ => m1 - (intOf t).toNat)
                  case atStart => exact ⟨0, M', h1, by omega, rfl, HK3.out.1, HM2.out, fun j h1 h2 => HK3.out.2.2 j (by omega) h2⟩
                  case round =>
                    clear s12 s13 HK3 HM2 hk hkl k9
                    obtain ⟨k, M', f', hk, rfl, HK3⟩ := hrel
                    obtain ⟨s12, s13⟩ := CEL.out _ _ HK3.out.1
                    by_cases hkl : k < m1
                    · obtain ⟨gx, hxe, hcl, hfz⟩ := HK3.out.1.limb (by omega) HK3.out.2.1 hkl
                      subst hxe
                      have KP := hid (HK3.out.1.poke (by omega) HK3.out.2.1 hkl (200 * (i : Int) + (k : Int)))
                      have HR3 := hid HK3.out.2.2
                      clear HK3 CEL
                      have k7 : ((k : Nat) : Int) < ((m1 : Nat) : Int) := by omega
                      have k8 : ((k : Nat) : Int) < 2000 := by omega
                      go_wp2
                      go_roundw
                      case rel => exact ⟨k + 1, _, _, by omega, by go_num, KP.out, updL_same _ _ _, fun j j1 j2 => by rw [updL_other _ _ _ _ (by omega)]; exact HR3.out j j1 j2⟩
                      case measure => simp [intOf]; omega
                    · have k9 : ¬ (((k : Nat) : Int) < ((m1 : Nat) : Int)) := by omega
                      have KP := hid HK3.out.1; have HR3 := hid HK3.out.2.2
                      clear HK3 CEL s12 s13
                      go_wp2
                      go_roundw
                      case rel => exact ⟨i + 1, M', by omega, by go_num, KP.out, fun j j1 j2 => HR3.out j (by omega) j2⟩
                      case measure => simp [intOf]; omega
          · have i9 : ¬ (((i : Nat) : Int) < 8) := by omega
            have KE := hid HK.out.1.tur
            clear HK
            go_wp2_with fail
            go_loopw [127] (fun t wr => ∃ (i : Nat), i ≤ 8 ∧ t = .int .i64 i ∧ Hid (Turned w5.heap.size w6.heap.size w8 wr)) (fun t _ => 8 - (intOf t).toNat)
            case atStart => exact ⟨0, by omega, rfl, KE.out⟩
            case round =>
              clear KE
              obtain ⟨i, hi, rfl, HT⟩ := hrel
              by_cases hlt2 : i < 8
              · obtain ⟨wr1, hwr1⟩ : ∃ x : World, x = wr := ⟨wr, rfl⟩
                subst hwr1
                obtain ⟨T2, T3, I4, _⟩ := AA.out.t1 HT.out
                obtain ⟨x2, n2, c2, f2, o2e⟩ : ∃ a b c d, two (2 * i) = ⟨a, b, c, d⟩ := ⟨_, _, _, _, rfl⟩
                obtain ⟨y2, m2, d2, h2, p2e⟩ : ∃ a b c d, two (2 * i + 1) = ⟨a, b, c, d⟩ := ⟨_, _, _, _, rfl⟩
                obtain ⟨x3, n3, c3, f3, o3e⟩ : ∃ a b c d, want (2 * i) = ⟨a, b, c, d⟩ := ⟨_, _, _, _, rfl⟩
                obtain ⟨y3, m3, d3, h3, p3e⟩ : ∃ a b c d, want (2 * i + 1) = ⟨a, b, c, d⟩ := ⟨_, _, _, _, rfl⟩
                obtain ⟨q2, hq2⟩ : ∃ x, S2 i = x := ⟨_, rfl⟩
                obtain ⟨q3, hq3⟩ : ∃ x, S3 i = x := ⟨_, rfl⟩
                obtain ⟨ix, hix⟩ : ∃ x, I i = x := ⟨_, rfl⟩
                have F2 := fam_cells12 T2.fam hlt2; have F3 := fam_cells12 T3.fam hlt2
                rw [o2e, p2e, hq2, hix] at F2; rw [o3e, p3e, hq3, hix] at F3
                have v2 := AA.out.v2 i hlt2; have v3 := AA.out.v3 i hlt2
                rw [o2e, p2e, hq2] at v2; rw [o3e, p3e, hq3] at v3
                have k2a : Lsb .u64 28 wr1 ⟨x2, n2, c2, f2⟩ := by have := T2.own (2 * i) (by omega); rw [o2e] at this; exact this
                have k2b : Lsb .u64 28 wr1 ⟨y2, m2, d2, h2⟩ := by have := T2.own (2 * i + 1) (by omega); rw [p2e] at this; exact this
                have k3a : Lsb .u64 28 wr1 ⟨x3, n3, c3, f3⟩ := by have := T3.own (2 * i) (by omega); rw [o3e] at this; exact this
                have k3b : Lsb .u64 28 wr1 ⟨y3, m3, d3, h3⟩ := by have := T3.own (2 * i + 1) (by omega); rw [p3e] at this; exact this
                have CS2 : Hid (∀ W, Below wr1.heap.size wr1 W → Calls Tryz.prog 16 #[.agg #[.int .i64 ix, .bool q2, .slice x2 n2 c2, .slice y2 m2 d2], .agg #[.int .i64 ix, .bool q3, .slice x3 n3 c3, .slice y3 m3 d3]] W fun e w' => e = .returned (.bool true) ∧ Below W.heap.size W w') := fun W hW =>
                  (by have h9 := eSame_v (w := W) (i := ix) v2 v3 (Own.below k2a hW) (Own.below k2b hW) (Own.below k3a hW) (Own.below k3b hW); exact h9)
                obtain ⟨s20, s21, s22, s23⟩ : wr1.cell? ⟨g2, i * 4, none⟩ = some (.int .i64 ix) ∧ wr1.cell? ⟨g2, i * 4 + 1, none⟩ = some (.bool q2) ∧ wr1.cell? ⟨g2, i * 4 + 2, none⟩ = some (.slice x2 n2 c2) ∧ wr1.cell? ⟨g2, i * 4 + 3, none⟩ = some (.slice y2 m2 d2) := F2
                obtain ⟨s30, s31, s32, s33⟩ : wr1.cell? ⟨g3, i * 4, none⟩ = some (.int .i64 ix) ∧ wr1.cell? ⟨g3, i * 4 + 1, none⟩ = some (.bool q3) ∧ wr1.cell? ⟨g3, i * 4 + 2, none⟩ = some (.slice x3 n3 c3) ∧ wr1.cell? ⟨g3, i * 4 + 3, none⟩ = some (.slice y3 m3 d3) := F3
                clear T2 T3 I4 v2 v3 k2a k2b k3a k3b o2e o3e p2e p3e hq2 hq3 hix
                have i7 : ((i : Nat) : Int) < 8 := by omega
                go_upto_region 27 with fail
                go_cut [139] from 130 to 138 (fun u wx => ∃ (wy : World), wy = wx ∧ u = .bool false ∧ Below wr1.heap.size wr1 wy)
                case first =>
                  go_region_held3 (fun w' => w'.cell? ⟨g2, i * 4, none⟩ = some (.int .i64 ix) ∧ w'.cell? ⟨g2, i * 4 + 1, none⟩ = some (.bool q2) ∧ w'.cell? ⟨g2, i * 4 + 2, none⟩ = some (.slice x2 n2 c2) ∧ w'.cell? ⟨g2, i * 4 + 3, none⟩ = some (.slice y2 m2 d2) ∧ w'.cell? ⟨g3, i * 4, none⟩ = some (.int .i64 ix) ∧ w'.cell? ⟨g3, i * 4 + 1, none⟩ = some (.bool q3) ∧ w'.cell? ⟨g3, i * 4 + 2, none⟩ = some (.slice x3 n3 c3) ∧ w'.cell? ⟨g3, i * 4 + 3, none⟩ = some (.slice y3 m3 d3))
                    (refine ⟨?_, ?_, ?_, ?_, ?_, ?_, ?_, ?_⟩ <;> repeat (with_reducible first | assumption | refine kCd ?_ | refine kCa ?_ | refine kCb (by assumption) ?_))
                    (first | (go_at_call 16; with_reducible refine (CS2.out _ (by repeat (with_reducible first | assumption | exact Below.refl _ _ | refine Below.drew ?_ | refine kBa ?_ | refine kBb (by assumption) ?_))).mono ?_; rintro e w13' ⟨rfl, hb13⟩))
                  all_goals
                    go_wp2_with fail
                    go_meet
                    exact ⟨_, rfl, rfl, (by repeat (with_reducible first | assumption | exact Below.refl _ _ | refine Below.drew ?_ | refine kBa ?_ | refine kBb (by assumption) ?_))⟩
                case rest =>
                  obtain ⟨wq, rfl, rfl, hbq⟩ := hcut
                  have KQ := hid (HT.out.below hbq)
                  clear CS2 s20 s21 s22 s23 s30 s31 s32 s33 HT hbq
                  go_wp2
                  go_roundw
                  case rel => exact ⟨i + 1, by omega, by go_num, KQ.out⟩
                  case measure => simp [intOf]; omega
              · have j9 : ¬ (((i : Nat) : Int) < 8) := by omega
                obtain ⟨T2, T3, hI, hB⟩ := AA.out.t1 HT.out
                have BF := hid (B8.out.trans (hB.mono S5.out))
                have I8 := hid hI
                clear T2 T3 hI hB HT
                obtain ⟨za, a0, a1, a2, a3⟩ := I8.out.ba
                obtain ⟨z7, x0, x1, x2, x3⟩ := I8.out.xa
                go_wp2_with fail
                refine (eSame_self I8.out.za.rx I8.out.za.ry I8.out.ra.rx I8.out.ra.ry (by omega) (by omega)).mono ?_
                rintro e w19 ⟨rfl, hb19⟩
                replace BF := hid (BF.out.trans (hb19.mono BF.out.size)); replace I8 := hid (I8.out.below hb19)
                clear hb19 a0 a1 a2 a3 x0 x1 x2 x3 za z7
                obtain ⟨zb, b0, b1, b2, b3⟩ := I8.out.bb
                obtain ⟨z8, y0, y1, y2, y3⟩ := I8.out.xb
                go_wp2_with fail
                refine (eSame_self I8.out.zb.rx I8.out.zb.ry I8.out.rb.rx I8.out.rb.ry (by omega) (by omega)).mono ?_
                rintro e w20 ⟨rfl, hb20⟩
                replace BF := hid (BF.out.trans (hb20.mono BF.out.size)); replace I8 := hid (I8.out.below hb20)
                clear hb20 b0 b1 b2 b3 y0 y1 y2 y3 zb z8
                obtain ⟨zr, r0, r1, r2⟩ := I8.out.br
                obtain ⟨z9, t0, t1, t2⟩ := I8.out.xr
                go_wp2_with fail
                refine (rSame_self I8.out.zr.rx I8.out.zr.ry I8.out.rr.rx I8.out.rr.ry (by omega) (by omega)).mono ?_
                rintro e w21 ⟨rfl, hb21⟩
                replace BF := hid (BF.out.trans (hb21.mono BF.out.size))
                clear hb21 r0 r1 r2 t0 t1 t2 zr z9 I8
                go_wp2
                go_ret
                exact ⟨rfl, BF.out⟩
theorem extKeeps_c (u0 : Int) (s0 : Bool) (x0 : Option Addr) (n0 c0 : Nat) (f0 : Nat → Int) (y0 : Option Addr) (m0 d0 : Nat) (g0 : Nat → Int) (u1 : Int) (s1 : Bool) (x1 : Option Addr) (n1 c1 : Nat) (f1 : Nat → Int) (y1 : Option Addr) (m1 d1 : Nat) (g1 : Nat → Int) (s2 : Bool) (x2 : Option Addr) (n2 c2 : Nat) (f2 : Nat → Int) (y2 : Option Addr) (m2 d2 : Nat) (g2 : Nat → Int) (w : World) (h0 : Rw w x0 n0 c0 f0 y0 m0 d0 g0) (h1 : Rw w x1 n1 c1 f1 y1 m1 d1 g1) (h2 : Rw w x2 n2 c2 f2 y2 m2 d2 g2) (_ : Tab w) :
    Calls Tryz.prog 4 #[.agg #[.int .i64 u0, .bool s0, .slice x0 n0 c0, .slice y0 m0 d0], .agg #[.int .i64 u1, .bool s1, .slice x1 n1 c1, .slice y1 m1 d1], .agg #[.bool s2, .slice x2 n2 c2, .slice y2 m2 d2]] w fun e w' => e = .returned (.bool true) ∧ Below w.heap.size w w' :=
  extKeeps_n u0 ⟨s0, x0, n0, c0, f0, y0, m0, d0, g0⟩ u1 ⟨s1, x1, n1, c1, f1, y1, m1, d1, g1⟩ ⟨s2, x2, n2, c2, f2, y2, m2, d2, g2⟩ w h0 h1 h2
end Go.Proofs.YtlpmfmphglgocaaGreatDoor

/-
  The walk of package ray's Along, whatever it is handed (written by makers/ra3.py). The walk of law07's awake (written by makers/f23.py). Ray's calls on values; the walks of law13's one, first, light, of the reference's Twin of a ray, of awake (written by makers/ra4.py). The reference's Same and Sames of lists with the same values. The walk of law13's awake (written by makers/ra5.py). The reference's models by their values; the walk of the reference's From of a model (written by makers/f32.py). A model that is well formed has values; the walks of the reference's Crossed and DocCrossed (written by makers/f33.py). The walk of the law ModelNames (written by makers/f28.py). The walk of law17's awake, and of StackNew (written by makers/o5.py). The walks of the reference's Same of points, of certificates and of bases that are alike; of the calls of a nil stack; of StackNone (written by makers/o6.py). Lists of numbers that are copies; the walk of law17's lists, and what it answers. Twins have the same values; what adds up along directions. The walks of law13's light, of the reference's Twin of a ray (written by makers/ra7.py). Ray's calls on twins of a model and of lists, by what the model and the lists are; the sum of two directions. Along a direction that recedes points stay points, and values move by the slope. Point's calls on twins, and on what lies along a direction. Calls on twins whose numbers are of at most K limbs, by what they are twins of. The walk of the reference's DocAlong, whatever it is handed (written by makers/rd1.py).
-/
import Derived.Test.YtlemkhgicdnlnaaGreatZ11
import Derived.Test.YtlemkhgicdnlnaaGreatZ9
import Derived.Test.YtlemkhgicdnlnaaGreatZ10
import Derived.Test.YtlemkhgicdnlnaaGreatZ8
import Derived.Test.YtlemkhgicdnlnaaGreatZ6
import Derived.BigQuiet
import Derived.Deep.RegionHeld3
import Derived.BigRegion
import Derived.Test.YtlemkhgicdnlnaaGreatZ7
namespace Go.Proofs.YtlemkhgicdnlnaaGreat
open Go.RowKit

/-- The error of a ray and a number. -/
def alE (t : Nm) (kx : Nat) (Y : Nat → Nm) (k : Nat) (X : Nat → Nm) : Int := lsf (tri (pnE 1 (fun _ => t) 1) (pnE kx Y kx) (pnE k X kx)) 3
/-- The point so far along a ray. -/
def alng (xs ds : List Rat) (t : Rat) : List Rat := List.zipWith (fun x d => 0 + x + t * d) xs ds
def KL (L : Nat) : Nat := 4 + 2 * (2 * L + 1 + 1)
/-- What Along answers. -/
def AlAns (L : Nat) (w w' : World) (e : Ending) (er : Int) (kx : Nat) (xs ds : List Rat) (t : Rat) : Prop := Below w.heap.size w w' ∧
  ((er ≠ 0 ∧ e = .returned (.tuple #[.slice none 0 0, .int .i64 er])) ∨ (er = 0 ∧ ∃ a c, e = .returned (.tuple #[.slice a kx c, .int .i64 0]) ∧ (kx ≤ c ∧ c ≤ 9223372036854775807) ∧ Rf (KL L) w' a (alng xs ds t)))
theorem rl_num1 {w : World} {t : Nm} {T : TypeId} (h : NmS w t) : Rl (w.alloc (.cells #[.bool t.s, .slice t.x t.n t.c, .slice t.y t.m t.d] T)) (some ⟨w.heap.size, 0, none⟩) 1 (fun _ => t) := fun j hj => by
  obtain rfl : j = 0 := by omega
  exact ⟨w.heap.size, 0, rfl, ⟨by simp [go_sem], by simp [go_sem], by simp [go_sem]⟩, h.below (below_alloc (Below.refl _ _) _)⟩
theorem rf_two {K : Nat} {w : World} {T : TypeId} {s : Bool} {x : Option Addr} {n c : Nat} {f : Nat → Int} {y : Option Addr} {m d : Nat} {g : Nat → Int} {q : Rat} {s2 : Bool} {x2 : Option Addr} {n2 c2 : Nat} {f2 : Nat → Int} {y2 : Option Addr} {m2 d2 : Nat} {g2 : Nat → Int} {q2 : Rat} (h : Rn K w s x n c f y m d g q) (h2 : Rn K w s2 x2 n2 c2 f2 y2 m2 d2 g2 q2) : Rf K (w.alloc (.cells #[.bool s, .slice x n c, .slice y m d, .bool s2, .slice x2 n2 c2, .slice y2 m2 d2] T)) (some ⟨w.heap.size, 0, none⟩) [q, q2] := fun j q' e => by
  match j, e with
  | 0, e => cases e; exact ⟨w.heap.size, 0, ⟨s, x, n, c, f, y, m, d, g⟩, rfl, ⟨by simp [go_sem], by simp [go_sem], by simp [go_sem]⟩, h.alloc _⟩
  | 1, e => cases e; exact ⟨w.heap.size, 0, ⟨s2, x2, n2, c2, f2, y2, m2, d2, g2⟩, rfl, ⟨by simp [go_sem], by simp [go_sem], by simp [go_sem]⟩, h2.alloc _⟩
set_option maxRecDepth 100000 in
set_option maxHeartbeats 8000000 in
theorem rAlong_v {w : World} {L : Nat} {ax : Option Addr} {kx capx : Nat} {Y : Nat → Nm} {ao : Option Addr} {k cap : Nat} {X : Nat → Nm} {ts : Bool} {tx : Option Addr} {tn tc : Nat} {tf : Nat → Int} {ty : Option Addr} {tm td : Nat} {tg : Nat → Int} {xs ds : List Rat} {tq : Rat} {er : Int} (hy : Rl w ax kx Y) (hx : Rl w ao k X) (ht : NmS w ⟨ts, tx, tn, tc, tf, ty, tm, td, tg⟩) (hkx : kx ≤ 1000000) (hk : k ≤ 1048576) (he : alE ⟨ts, tx, tn, tc, tf, ty, tm, td, tg⟩ kx Y k X = er) (hv : er = 0 → Rf L w ax xs ∧ xs.length = kx ∧ Rf L w ao ds ∧ ds.length = k ∧ k = kx ∧ Rn L w ts tx tn tc tf ty tm td tg tq) (hL : L ≤ 60) :
    Calls Tryz.prog 17 #[.agg #[.slice ax kx capx, .slice ao k cap], .agg #[.bool ts, .slice tx tn tc, .slice ty tm td]] w fun e w' => AlAns L w w' e er kx xs ds tq := by
  have C0 : Hid (∀ W, Below w.heap.size w W → Calls Tryz.prog 42 #[.slice (some ⟨W.heap.size, 0, none⟩) 1 1, .int .i64 1] (W.alloc (.cells #[.bool ts, .slice tx tn tc, .slice ty tm td] 24)) fun e w' => e = .returned (.int .i64 (pnE 1 (fun _ => ⟨ts, tx, tn, tc, tf, ty, tm, td, tg⟩) 1)) ∧ Below (W.alloc (.cells #[.bool ts, .slice tx tn tc, .slice ty tm td] 24)).heap.size (W.alloc (.cells #[.bool ts, .slice tx tn tc, .slice ty tm td] 24)) w') := fun W hW2 => pNumbers_c (rl_num1 (ht.below hW2)) (by decide)
  have C1 := hid (fun W (hW2 : Below w.heap.size w W) => pNumbers_c (w := W) (cap := capx) (z := (kx : Int)) (hy.below hW2) (by omega))
  have C2 := hid (fun W (hW2 : Below w.heap.size w W) => pNumbers_c (w := W) (cap := cap) (z := (kx : Int)) (hx.below hW2) hk)
  have HE := hid he
  unfold alE at he
  obtain ⟨e0, he0⟩ : ∃ e, pnE 1 (fun _ => ⟨ts, tx, tn, tc, tf, ty, tm, td, tg⟩) 1 = e := ⟨_, rfl⟩
  rw [he0] at C0 he
  clear he0
  obtain ⟨e1, he1⟩ : ∃ e, pnE kx Y kx = e := ⟨_, rfl⟩
  rw [he1] at C1 he
  clear he1
  obtain ⟨e2, he2⟩ : ∃ e, pnE k X kx = e := ⟨_, rfl⟩
  rw [he2] at C2 he
  clear he2
  have HE2 := hid he; have HV := hid hv
  clear he hv hx hy ht
  have hb := below_alloc (below_alloc (Below.refl w.heap.size w) (.cells #[.slice ax kx capx, .slice ao k cap] 31)) (.cells #[.bool ts, .slice tx tn tc, .slice ty tm td] 24)
  have BY : Hid (Bk ((w.alloc (.cells #[.slice ax kx capx, .slice ao k cap] 31)).alloc (.cells #[.bool ts, .slice tx tn tc, .slice ty tm td] 24)) w.heap.size [.slice ax kx capx, .slice ao k cap] 31) := (bk_new w [.slice ax kx capx, .slice ao k cap] 31).below (below_alloc (Below.refl _ _) _)
  have BT : Hid (Bk ((w.alloc (.cells #[.slice ax kx capx, .slice ao k cap] 31)).alloc (.cells #[.bool ts, .slice tx tn tc, .slice ty tm td] 24)) (w.heap.size + 1) [.bool ts, .slice tx tn tc, .slice ty tm td] 24) := by
    have := bk_new (w.alloc (.cells #[.slice ax kx capx, .slice ao k cap] 31)) [.bool ts, .slice tx tn tc, .slice ty tm td] 24
    rw [size_alloc1] at this; exact this
  have HB := hid hb
  clear hb
  go_enter Tryz.func17, Tryz.ntmps17
  have t0 := BY.out.cell (j := 0) rfl
  go_upto_region 2 with fail
  clear t0
  generalize ((w.alloc (.cells #[.slice ax kx capx, .slice ao k cap] 31)).alloc (.cells #[.bool ts, .slice tx tn tc, .slice ty tm td] 24)) = w0 at *
  have hbd := Below.drew (Below.refl w0.heap.size w0)
  replace HB := hid (HB.out.trans (hbd.mono HB.out.size)); replace BY := hid (BY.out.below hbd); replace BT := hid (BT.out.below hbd)
  clear hbd
  have y0 := BY.out.cell (j := 0) rfl
  have y1 := BY.out.cell (j := 1) rfl
  have r0 := BT.out.cell (j := 0) rfl
  have r1 := BT.out.cell (j := 1) rfl
  have r2 := BT.out.cell (j := 2) rfl
  refine wp_region_held_drew (S := (fun w' => w'.cell? ⟨w.heap.size, 0, none⟩ = some (.slice ax kx capx) ∧ w'.cell? ⟨w.heap.size, 1, none⟩ = some (.slice ao k cap) ∧ w'.cell? ⟨w.heap.size + 1, 0, none⟩ = some (.bool ts) ∧ w'.cell? ⟨w.heap.size + 1, 1, none⟩ = some (.slice tx tn tc) ∧ w'.cell? ⟨w.heap.size + 1, 2, none⟩ = some (.slice ty tm td))) (by kernel_rfl) ?_ (fun hHeld => ?_)
  · exact ⟨y0, y1, r0, r1, r2⟩
  generalize w0.drew = wd at *
  clear y0 y1 r0 r1 r2
  refine wpAnyH_take (i := 0) (v := ?_) rfl (by kernel_rfl) (by kernel_rfl) (by kernel_rfl) (fun _ _ _ h => h) (Or.inl ⟨by rfl, ?_⟩) (by assumption) ?_
  rotate_left
  (focus (intro w0 hSw; (try dsimp only at hSw); go_simp <;> with_reducible rfl))
  simp only [List.getElem_toArray, List.getElem_cons_zero, Act.put, List.setIfInBounds_toArray, List.set_cons_zero, List.set_cons_succ]
  refine wpAnyH_take (i := 3) (v := ?_) rfl (by kernel_rfl) (by kernel_rfl) (by kernel_rfl) (fun _ _ _ h => h) (Or.inl ⟨by rfl, ?_⟩) (by assumption) ?_
  rotate_left
  (focus (intro w0 hSw; (try dsimp only at hSw); go_simp <;> with_reducible rfl))
  simp only [List.getElem_toArray, List.getElem_cons_succ, List.getElem_cons_zero, Act.put, List.setIfInBounds_toArray, List.set_cons_zero, List.set_cons_succ]
  refine wpAnyH_take (i := 4) (v := ?_) rfl (by kernel_rfl) (by kernel_rfl) (by kernel_rfl) (fun _ _ _ h => h) (Or.inl ⟨by rfl, ?_⟩) (by assumption) ?_
  rotate_left
  (focus (intro w0 hSw; (try dsimp only at hSw); go_simp <;> with_reducible rfl))
  simp only [List.getElem_toArray, List.getElem_cons_succ, List.getElem_cons_zero, Act.put, List.setIfInBounds_toArray, List.set_cons_zero, List.set_cons_succ]
  refine wpAnyH_take (i := 5) (v := ?_) rfl (by kernel_rfl) (by kernel_rfl) (by kernel_rfl) (fun _ _ _ h => h) (Or.inl ⟨by rfl, ?_⟩) (by assumption) ?_
  rotate_left
  (focus (intro w0 hSw; (try dsimp only at hSw); go_simp <;> with_reducible rfl))
  simp only [List.getElem_toArray, List.getElem_cons_succ, List.getElem_cons_zero, Act.put, List.setIfInBounds_toArray, List.set_cons_zero, List.set_cons_succ]
  refine wpAnyH_take (i := 7) (v := ?_) rfl (by kernel_rfl) (by kernel_rfl) (by kernel_rfl) (fun _ _ _ h => h) (Or.inl ⟨by rfl, ?_⟩) (by assumption) ?_
  rotate_left
  (focus (intro w0 hSw; (try dsimp only at hSw); go_simp <;> with_reducible rfl))
  simp only [List.getElem_toArray, List.getElem_cons_succ, List.getElem_cons_zero, Act.put, List.setIfInBounds_toArray, List.set_cons_zero, List.set_cons_succ]
  refine wpAnyH_take (i := 8) (v := ?_) rfl (by kernel_rfl) (by kernel_rfl) (by kernel_rfl) (fun _ _ _ h => h) (Or.inl ⟨by rfl, ?_⟩) (by assumption) ?_
  rotate_left
  (focus (intro w0 hSw; (try dsimp only at hSw); go_simp <;> with_reducible rfl))
  simp only [List.getElem_toArray, List.getElem_cons_succ, List.getElem_cons_zero, Act.put, List.setIfInBounds_toArray, List.set_cons_zero, List.set_cons_succ]
  refine wpAnyH_take (i := 9) (v := ?_) rfl (by kernel_rfl) (by kernel_rfl) (by kernel_rfl) (fun _ _ _ h => h) (Or.inl ⟨by rfl, ?_⟩) (by assumption) ?_
  rotate_left
  (focus (intro w0 hSw; (try dsimp only at hSw); go_simp <;> with_reducible rfl))
  simp only [List.getElem_toArray, List.getElem_cons_succ, List.getElem_cons_zero, Act.put, List.setIfInBounds_toArray, List.set_cons_zero, List.set_cons_succ]
  refine wpAnyH_ready (rs := [1]) (by kernel_rfl) (by simp) ?_
  refine AllReadyH.cons (o := _) rfl (fun K hK => ?_) ?_
  rotate_left
  exact AllReadyH.nil
  go_simp
  have hbn := below_alloc (Below.refl wd.heap.size wd) (.cells #[.bool ts, .slice tx tn tc, .slice ty tm td] 24)
  refine hK.out _ _ ?_ (fun hHn => ?_)
  · exact ⟨kCb hbn hHeld.1, kCb hbn hHeld.2.1, kCb hbn hHeld.2.2.1, kCb hbn hHeld.2.2.2.1, kCb hbn hHeld.2.2.2.2⟩
  clear hK K
  have HBn := hid (HB.out.trans (hbn.mono HB.out.size))
  try simp only [Act.put, List.setIfInBounds_toArray, List.set_cons_zero, List.set_cons_succ]
  refine wpAnyH_ready (rs := [2]) (by kernel_rfl) (by simp) ?_
  refine AllReadyH.cons (o := _) rfl (fun K hK => ?_) ?_
  rotate_left
  exact AllReadyH.nil
  go_simp
  go_at_call 42
  refine (C0.out _ HB.out).mono ?_
  rintro e w3 ⟨rfl, hb3⟩
  (try go_wp2_with fail)
  refine hK.out _ _ ?_ (fun hH3 => ?_)
  · exact ⟨kCb hb3 hHn.1, kCb hb3 hHn.2.1, kCb hb3 hHn.2.2.1, kCb hb3 hHn.2.2.2.1, kCb hb3 hHn.2.2.2.2⟩
  clear hK K
  have HB3 := hid (HBn.out.trans (hb3.mono HBn.out.size))
  try simp only [Act.put, List.setIfInBounds_toArray, List.set_cons_zero, List.set_cons_succ]
  refine wpAnyH_ready (rs := [6]) (by kernel_rfl) (by simp) ?_
  refine AllReadyH.cons (o := _) rfl (fun K hK => ?_) ?_
  rotate_left
  exact AllReadyH.nil
  go_simp
  go_at_call 42
  refine (C1.out _ HB3.out).mono ?_
  rintro e w4 ⟨rfl, hb4⟩
  (try go_wp2_with fail)
  refine hK.out _ _ ?_ (fun hH4 => ?_)
  · exact ⟨kCb hb4 hH3.1, kCb hb4 hH3.2.1, kCb hb4 hH3.2.2.1, kCb hb4 hH3.2.2.2.1, kCb hb4 hH3.2.2.2.2⟩
  clear hK K
  have HB4 := hid (HB3.out.trans (hb4.mono HB3.out.size))
  try simp only [Act.put, List.setIfInBounds_toArray, List.set_cons_zero, List.set_cons_succ]
  refine wpAnyH_ready (rs := [10]) (by kernel_rfl) (by simp) ?_
  refine AllReadyH.cons (o := _) rfl (fun K hK => ?_) ?_
  rotate_left
  exact AllReadyH.nil
  go_simp
  go_at_call 42
  refine (C2.out _ HB4.out).mono ?_
  rintro e w5 ⟨rfl, hb5⟩
  (try go_wp2_with fail)
  refine hK.out _ _ ?_ (fun hH5 => ?_)
  · exact ⟨kCb hb5 hH4.1, kCb hb5 hH4.2.1, kCb hb5 hH4.2.2.1, kCb hb5 hH4.2.2.2.1, kCb hb5 hH4.2.2.2.2⟩
  clear hK K
  have HB5 := hid (HB4.out.trans (hb5.mono HB4.out.size))
  obtain ⟨y0, y1, r0, r1, r2⟩ := id hH5
  try simp only [Act.put, List.setIfInBounds_toArray, List.set_cons_zero, List.set_cons_succ]
  refine wpAnyH_ready (rs := [11]) (by kernel_rfl) (by simp) ?_
  refine AllReadyH.cons (o := _) rfl (fun K hK => ?_) ?_
  rotate_left
  exact AllReadyH.nil
  go_simp
  have hbA := below_alloc (Below.refl w5.heap.size w5) (.cells #[.int .i64 e0, .int .i64 e1, .int .i64 e2] 35)
  have HEl := hid (tri_el (w := w5) (e0 := e0) (e1 := e1) (e2 := e2) (t := 35))
  have HWA := hid (HB5.out.trans (hbA.mono HB5.out.size))
  obtain ⟨gA, hgA⟩ : ∃ z, w5.heap.size = z := ⟨_, rfl⟩
  rw [hgA] at HEl ⊢
  generalize hwA : w5.alloc (.cells #[.int .i64 e0, .int .i64 e1, .int .i64 e2] 35) = wA at *
  clear hwA hgA
  refine hK.out _ _ ?_ (fun hHA => ?_)
  · ((try dsimp only); (refine ⟨?_, ?_, ?_, ?_, ?_⟩ <;> repeat (with_reducible first | assumption | refine kCb (by assumption) ?_)))
  clear hK K
  try simp only [Act.put, List.setIfInBounds_toArray, List.set_cons_zero, List.set_cons_succ]
  refine wpAnyH_ready (rs := [12]) (by kernel_rfl) (by simp) ?_
  refine AllReadyH.cons (o := _) rfl (fun K hK => ?_) ?_
  rotate_left
  exact AllReadyH.nil
  go_simp
  go_at_call 41
  refine (least_c HEl.out (by decide)).mono ?_
  rintro e w9 ⟨rfl, rfl⟩
  (try go_wp2_with fail)
  refine hK.out _ _ ?_ (fun hHB => ?_)
  · exact hHA
  clear hK K
  try simp only [Act.put, List.setIfInBounds_toArray, List.set_cons_zero, List.set_cons_succ]
  refine wpAnyH_take (i := 13) (v := ?_) rfl (by kernel_rfl) (by kernel_rfl) (by kernel_rfl) (fun _ _ _ h => h) (Or.inl ⟨by rfl, ?_⟩) (by assumption) ?_
  rotate_left
  (focus (intro w0 hSw; (try dsimp only at hSw); go_simp <;> with_reducible rfl))
  simp only [List.getElem_toArray, List.getElem_cons_succ, List.getElem_cons_zero, Act.put, List.setIfInBounds_toArray, List.set_cons_zero, List.set_cons_succ]
  refine wpAnyH_done (by kernel_rfl) ?_ _
  simp only [show lsf (tri e0 e1 e2) 3 = er from HE2.out]
  replace BY := hid (BY.out.below (hbn.trans ((hb3.trans ((hb4.trans (hb5.mono hb4.size)).mono hb3.size)).mono hbn.size))); replace BT := hid (BT.out.below (hbn.trans ((hb3.trans ((hb4.trans (hb5.mono hb4.size)).mono hb3.size)).mono hbn.size)))
  replace BY := hid (BY.out.below hbA); replace BT := hid (BT.out.below hbA)
  replace HB := hid HWA.out
  clear HE2 hHeld hHn hH3 hH4 hH5 hHA hHB hbn hb3 hb4 hb5 hbA y0 y1 r0 r1 r2 HEl C0 C1 C2 HBn HB3 HB4 HB5 HWA
  by_cases h0 : er = 0
  case neg =>
    have h1 : (er != 0) = true := by simpa using h0
    have H0 := hid h0
    go_wp2
    go_ret2
    exact ⟨HB.out, .inl ⟨H0.out, rfl⟩⟩
  obtain ⟨v1, v2, v3, v4, v5, v6⟩ := HV.out h0
  subst h0
  subst v5
  have HX := hid v1; have HXL := hid v2; have HD := hid v3; have HDL := hid v4; have HT := hid v6
  clear v1 v2 v3 v4 v6 HV
  have y0 := BY.out.cell (j := 0) rfl
  go_wp2_with fail
  clear y0
  obtain ⟨w1, hw1⟩ : ∃ z : World, z = w9 := ⟨_, rfl⟩
  subst hw1
  go_loopw [8, 33] (fun ov t wr => ∃ (i : Nat), i ≤ k ∧ t = .int .i64 i ∧ Hid (Below w1.heap.size w1 wr) ∧ Hid (Gr (KL L) w1.heap.size wr ov ((alng xs ds tq).take i))) (fun _ t _ => k - (intOf t).toNat)
  case atStart => exact ⟨0, by omega, rfl, Below.refl _ _, gr_nil _ _ _⟩
  case round =>
    obtain ⟨i, hi, rfl, HB2, HG2⟩ := hrel
    have hcl : (alng xs ds tq).length = k := by unfold alng; rw [List.length_zipWith, HXL.out, HDL.out, Nat.min_self]
    have hgl : ((alng xs ds tq).take i).length = i := by rw [List.length_take]; omega
    by_cases hlt : i < k
    · obtain ⟨u, hu⟩ : ∃ t, xs[i]? = some t := ⟨_, List.getElem?_eq_getElem (by have := HXL.out; omega)⟩
      obtain ⟨r, hr⟩ : ∃ t, ds[i]? = some t := ⟨_, List.getElem?_eq_getElem (by have := HDL.out; omega)⟩
      have hbz := HB.out.trans (HB2.out.mono HB.out.size)
      obtain ⟨b, o, ⟨us, ux, un, uc, uf, uy, um, ud, ug⟩, hba, ⟨q0, q1, q2⟩, hu'⟩ := (HX.out.below hbz) i u hu
      subst hba
      obtain ⟨b', o', ⟨ss, sx, sn, sc, sf, sy, sm, sd, sg⟩, hax, ⟨p0, p1, p2⟩, hr'⟩ := (HD.out.below hbz) i r hr
      subst hax
      replace q0 : wr.cell? ⟨b, o + i * 3, none⟩ = some (.bool us) := q0
      replace q1 : wr.cell? ⟨b, o + i * 3 + 1, none⟩ = some (.slice ux un uc) := q1
      replace q2 : wr.cell? ⟨b, o + i * 3 + 2, none⟩ = some (.slice uy um ud) := q2
      replace p0 : wr.cell? ⟨b', o' + i * 3, none⟩ = some (.bool ss) := p0
      replace p1 : wr.cell? ⟨b', o' + i * 3 + 1, none⟩ = some (.slice sx sn sc) := p1
      replace p2 : wr.cell? ⟨b', o' + i * 3 + 2, none⟩ = some (.slice sy sm sd) := p2
      replace hr' : Rn L wr ss sx sn sc sf sy sm sd sg r := hr'
      replace hu' : Rn L wr us ux un uc uf uy um ud ug u := hu'
      have ht2 := HT.out.below hbz
      have HCI : Hid ((alng xs ds tq).take (i + 1) = (alng xs ds tq).take i ++ [psum [u, tq * r] 0]) := by
        show _ = _
        rw [List.take_add_one]
        congr 1
        unfold alng
        rw [List.getElem?_zipWith, hu, hr]; rfl
      have hbt := below_alloc (Below.refl wr.heap.size wr) (.cells #[.bool us, .slice ux un uc, .slice uy um ud] 24)
      have a0 : (wr.alloc (.cells #[.bool us, .slice ux un uc, .slice uy um ud] 24)).cell? ⟨wr.heap.size, 0, none⟩ = some (.bool us) := by simp [go_sem]
      have a1 : (wr.alloc (.cells #[.bool us, .slice ux un uc, .slice uy um ud] 24)).cell? ⟨wr.heap.size, 1, none⟩ = some (.slice ux un uc) := by simp [go_sem]
      have a2 : (wr.alloc (.cells #[.bool us, .slice ux un uc, .slice uy um ud] 24)).cell? ⟨wr.heap.size, 2, none⟩ = some (.slice uy um ud) := by simp [go_sem]
      replace BY := hid (BY.out.below HB2.out); replace BT := hid (BT.out.below HB2.out)
      have i1' : ((i : Nat) : Int) < ((k : Nat) : Int) := by omega
      clear hu hr
      go_upto_region 9 with fail
      clear q0 q1 q2
      replace p0 := kCb hbt p0; replace p1 := kCb hbt p1; replace p2 := kCb hbt p2
      have y1 := kCb hbt (BY.out.cell (j := 1) rfl)
      have r0 := kCb hbt (BT.out.cell (j := 0) rfl)
      have r1 := kCb hbt (BT.out.cell (j := 1) rfl)
      have r2 := kCb hbt (BT.out.cell (j := 2) rfl)
      have HB3 := hid (HB2.out.trans (hbt.mono HB2.out.size)); have HG3 := hid (HG2.out.below hbt); have R0 := hid (hu'.below hbt); have R1 := hid (ht2.below hbt); have R2 := hid (hr'.below hbt)
      clear hbz hbt HB2 HG2 hu' hr' ht2
      generalize hbx : wr.heap.size = bx at *
      generalize wr.alloc (.cells #[.bool us, .slice ux un uc, .slice uy um ud] 24) = w5 at *
      clear hbx
      refine wp_region_phase (S := (fun w' => w'.cell? ⟨bx, 0, none⟩ = some (.bool us) ∧ w'.cell? ⟨bx, 1, none⟩ = some (.slice ux un uc) ∧ w'.cell? ⟨bx, 2, none⟩ = some (.slice uy um ud) ∧ w'.cell? ⟨w.heap.size + 1, 0, none⟩ = some (.bool ts) ∧ w'.cell? ⟨w.heap.size + 1, 1, none⟩ = some (.slice tx tn tc) ∧ w'.cell? ⟨w.heap.size + 1, 2, none⟩ = some (.slice ty tm td) ∧ w'.cell? ⟨w.heap.size, 1, none⟩ = some (.slice (some ⟨b', o', none⟩) k cap) ∧ w'.cell? ⟨b', o' + i * 3, none⟩ = some (.bool ss) ∧ w'.cell? ⟨b', o' + i * 3 + 1, none⟩ = some (.slice sx sn sc) ∧ w'.cell? ⟨b', o' + i * 3 + 2, none⟩ = some (.slice sy sm sd))) 9 (by kernel_rfl) ⟨kCd a0, kCd a1, kCd a2, kCd r0, kCd r1, kCd r2, kCd y1, kCd p0, kCd p1, kCd p2⟩ (fun hHeld => ?_)
      refine wpAnyP_skim (i := 0) (v := ?_) rfl (by kernel_rfl) (by kernel_rfl) (by kernel_rfl) (by kernel_rfl) (fun _ _ _ h => h) (Or.inl ⟨by rfl, ?_⟩) (fun _ => by assumption) ?_
      rotate_left
      (focus (intro w0 hSw; go_simp <;> with_reducible rfl))
      simp only [List.getElem_toArray, List.getElem_cons_zero, Act.put, List.setIfInBounds_toArray, List.set_cons_zero, List.set_cons_succ]
      refine wpAnyP_takeA (i := 1) (v := ?_) rfl (by kernel_rfl) (by kernel_rfl) (by kernel_rfl) (by kernel_rfl) (by kernel_rfl) (by kernel_rfl) (fun _ _ _ h => h) (Or.inl ⟨by rfl, ?_⟩) (by assumption) ?_
      rotate_left
      (focus (intro w0 hSw; (try dsimp only at hSw); go_simp <;> with_reducible rfl))
      simp only [List.getElem_toArray, List.getElem_cons_succ, List.getElem_cons_zero, Act.put, List.setIfInBounds_toArray, List.set_cons_zero, List.set_cons_succ]
      refine wpAnyP_takeA (i := 2) (v := ?_) rfl (by kernel_rfl) (by kernel_rfl) (by kernel_rfl) (by kernel_rfl) (by kernel_rfl) (by kernel_rfl) (fun _ _ _ h => h) (Or.inl ⟨by rfl, ?_⟩) (by assumption) ?_
      rotate_left
      (focus (intro w0 hSw; (try dsimp only at hSw); go_simp <;> with_reducible rfl))
      simp only [List.getElem_toArray, List.getElem_cons_succ, List.getElem_cons_zero, Act.put, List.setIfInBounds_toArray, List.set_cons_zero, List.set_cons_succ]
      refine wpAnyP_skim (i := 3) (v := ?_) rfl (by kernel_rfl) (by kernel_rfl) (by kernel_rfl) (by kernel_rfl) (fun _ _ _ h => h) (Or.inl ⟨by rfl, ?_⟩) (fun _ => by assumption) ?_
      rotate_left
      (focus (intro w0 hSw; go_simp <;> with_reducible rfl))
      simp only [List.getElem_toArray, List.getElem_cons_succ, List.getElem_cons_zero, Act.put, List.setIfInBounds_toArray, List.set_cons_zero, List.set_cons_succ]
      refine wpAnyP_takeA (i := 4) (v := ?_) rfl (by kernel_rfl) (by kernel_rfl) (by kernel_rfl) (by kernel_rfl) (by kernel_rfl) (by kernel_rfl) (fun _ _ _ h => h) (Or.inl ⟨by rfl, ?_⟩) (by assumption) ?_
      rotate_left
      (focus (intro w0 hSw; (try dsimp only at hSw); go_simp <;> with_reducible rfl))
      simp only [List.getElem_toArray, List.getElem_cons_succ, List.getElem_cons_zero, Act.put, List.setIfInBounds_toArray, List.set_cons_zero, List.set_cons_succ]
      refine wpAnyP_skim (i := 5) (v := ?_) rfl (by kernel_rfl) (by kernel_rfl) (by kernel_rfl) (by kernel_rfl) (fun _ _ _ h => h) (Or.inl ⟨by rfl, ?_⟩) (fun _ => by assumption) ?_
      rotate_left
      (focus (intro w0 hSw; go_simp <;> with_reducible rfl))
      simp only [List.getElem_toArray, List.getElem_cons_succ, List.getElem_cons_zero, Act.put, List.setIfInBounds_toArray, List.set_cons_zero, List.set_cons_succ]
      refine wpAnyP_skim (i := 6) (v := ?_) rfl (by kernel_rfl) (by kernel_rfl) (by kernel_rfl) (by kernel_rfl) (fun _ _ _ h => h) (Or.inl ⟨by rfl, ?_⟩) (fun _ => by assumption) ?_
      rotate_left
      (focus (intro w0 hSw; go_simp <;> with_reducible rfl))
      simp only [List.getElem_toArray, List.getElem_cons_succ, List.getElem_cons_zero, Act.put, List.setIfInBounds_toArray, List.set_cons_zero, List.set_cons_succ]
      refine wpAnyP_takeA (i := 7) (v := ?_) rfl (by kernel_rfl) (by kernel_rfl) (by kernel_rfl) (by kernel_rfl) (by kernel_rfl) (by kernel_rfl) (fun _ _ _ h => h) (Or.inl ⟨by rfl, ?_⟩) (by assumption) ?_
      rotate_left
      (focus (intro w0 hSw; (try dsimp only at hSw); go_simp <;> with_reducible rfl))
      simp only [List.getElem_toArray, List.getElem_cons_succ, List.getElem_cons_zero, Act.put, List.setIfInBounds_toArray, List.set_cons_zero, List.set_cons_succ]
      refine wpAnyP_ready (rs := [8]) (by kernel_rfl) (by simp) ?_
      refine AllReadyP.cons (o := _) rfl (fun K hK => ?_) ?_
      rotate_left
      exact AllReadyP.nil
      go_simp
      go_at_call 44
      refine (rtimes_c (L := L) (kRnd R1.out) (kRnd R2.out) (by omega)).mono ?_
      rintro e w6 ⟨s6, x6, n6, c6, f6, y6, m6, d6, g6, rfl, hb6, hq6⟩
      (try go_wp2_with fail)
      refine hK.out _ _ (fun _ => ⟨kCb hb6 hHeld.1, kCb hb6 hHeld.2.1, kCb hb6 hHeld.2.2.1, kCb hb6 hHeld.2.2.2.1, kCb hb6 hHeld.2.2.2.2.1, kCb hb6 hHeld.2.2.2.2.2.1, kCb hb6 hHeld.2.2.2.2.2.2.1, kCb hb6 hHeld.2.2.2.2.2.2.2.1, kCb hb6 hHeld.2.2.2.2.2.2.2.2.1, kCb hb6 hHeld.2.2.2.2.2.2.2.2.2⟩) (fun hH => ?_)
      replace hHeld := hH (by kernel_rfl)
      clear hK K hH
      try simp only [Act.put, List.setIfInBounds_toArray, List.set_cons_zero, List.set_cons_succ]
      refine wpAnyP_ready (rs := [9]) (by kernel_rfl) (by simp) ?_
      refine AllReadyP.cons (o := _) rfl (fun K hK => ?_) ?_
      rotate_left
      exact AllReadyP.nil
      go_simp
      have HQ2 := hid (rf_two (T := 24) (((kRnd R0.out).below hb6).mono (show L ≤ 2 * L + 1 by omega)) hq6)
      have hbb := below_alloc (Below.refl w6.heap.size w6) (.cells #[.bool us, .slice ux un uc, .slice uy um ud, .bool s6, .slice x6 n6 c6, .slice y6 m6 d6] 24)
      refine hK.out _ _ (fun h => by cases h) (fun _ => ?_)
      clear hK K
      try simp only [Act.put, List.setIfInBounds_toArray, List.set_cons_zero, List.set_cons_succ]
      refine wpAnyP_ready (rs := [10]) (by kernel_rfl) (by simp) ?_
      refine AllReadyP.cons (o := _) rfl (fun K hK => ?_) ?_
      rotate_left
      exact AllReadyP.nil
      go_simp
      go_at_call 43
      refine (pSum_c (L := 2 * L + 1) (k := 2) HQ2.out rfl (by decide) (by omega)).mono ?_
      rintro e w7 ⟨s7, x7, n7, c7, f7, y7, m7, d7, g7, rfl, hb7, hq7⟩
      (try go_wp2_with fail)
      refine hK.out _ _ (fun h => by cases h) (fun _ => ?_)
      clear hK K
      try simp only [Act.put, List.setIfInBounds_toArray, List.set_cons_zero, List.set_cons_succ]
      refine wpAnyP_ready (rs := [11]) (by kernel_rfl) (by simp) ?_
      refine AllReadyP.cons (o := _) rfl (fun K hK => ?_) ?_
      rotate_left
      exact AllReadyP.nil
      go_simp
      refine hK.out _ _ (fun h => by cases h) (fun _ => ?_)
      clear hK K
      try simp only [Act.put, List.setIfInBounds_toArray, List.set_cons_zero, List.set_cons_succ]
      refine wpAnyP_ready (rs := [12]) (by kernel_rfl) (by simp) ?_
      refine AllReadyP.cons (o := _) rfl (fun K hK => ?_) ?_
      rotate_left
      exact AllReadyP.nil
      have hb57 : Below w5.heap.size w5 w7 := ((Below.drew (Below.refl w5.heap.size w5)).trans (hb6.mono (Nat.le_refl _))).trans ((hbb.trans (hb7.mono hbb.size)).mono (show w5.heap.size ≤ w6.heap.size from hb6.size))
      obtain ⟨T, hrow, hT⟩ := Gr.below HG3.out hb57
      rw [hgl] at hrow
      refine step_append_one w7 rfl (.tmp 38) (.tmp 49) 29 rfl w1.heap.size 24 56 3 (.agg #[.bool false, .slice none 0 0, .slice none 0 0]) Tryz.underlying29 Tryz.infoRat rfl (by decide) nz3 u8 i _ rfl hrow #[.bool s7, .slice x7 n7 c7, .slice y7 m7 d7] rfl rfl (one3 _ _ _ _ _ _ _) (not3 _ _ _ _ _ _ _) (by omega) (by decide) ?hz ?_
      case hz => exact (HB3.out.trans (hb57.mono HB3.out.size)).size
      intro g8 cap8 w8 hr8 hk8 hb8 hg8
      have HB8 : Hid (Below w1.heap.size w1 w8) := hb8 w1 (HB3.out.trans (hb57.mono HB3.out.size)) (Nat.le_refl _)
      have HG8 : Hid (Gr (KL L) w1.heap.size w8 (.slice (some ⟨g8, 0, none⟩) (i + 1) cap8) ((alng xs ds tq).take (i + 1))) := by
        have hp8 := gr_push (p := (alng xs ds tq).take i) hT (by rw [hgl]; exact hr8) hk8 (show Rn (KL L) w7 s7 x7 n7 c7 f7 y7 m7 d7 g7 (psum [u, tq * r] 0) from hq7)
        rw [hgl] at hp8
        rw [HCI.out]; exact hp8
      clear hr8 hk8 hb8 hg8 hrow hT hb6 hq6 hb7 hq7 hbb hb57 HQ2 HG3 HB3 R0 R1 R2
      refine hK.out _ _ (fun h => by cases h) (fun _ => ?_)
      clear hK K
      simp only [List.getElem_toArray, List.getElem_cons_succ, List.getElem_cons_zero, Act.put, List.setIfInBounds_toArray, List.set_cons_zero, List.set_cons_succ]
      refine wpAnyP_skim (i := 13) (v := ?_) rfl (by kernel_rfl) (by kernel_rfl) (by kernel_rfl) (by kernel_rfl) (fun _ _ _ h => h) (Or.inl ⟨by rfl, ?_⟩) (fun h => by cases h) ?_
      rotate_left
      (focus (intro w0 hSw; go_simp <;> with_reducible rfl))
      simp only [List.getElem_toArray, List.getElem_cons_succ, List.getElem_cons_zero, Act.put, List.setIfInBounds_toArray, List.set_cons_zero, List.set_cons_succ]
      refine wpAnyP_done (by kernel_rfl) ?_ _
      clear hHeld a0 a1 a2 r0 r1 r2 y1 p0 p1 p2
      go_wp2
      go_roundw
      case rel => exact ⟨i + 1, by omega, by go_num, HB8.out, HG8.out⟩
      case measure => simp [intOf]; omega
    · have i4 : ¬ (((i : Nat) : Int) < ((k : Nat) : Int)) := by omega
      have e9 : i = k := by omega
      obtain ⟨va, vc, hvs, hvc⟩ := HG2.out.slice
      rw [hgl] at hvs hvc
      have HG4 := HG2.out
      rw [hvs] at HG4
      replace HG4 := hid (show Rf (KL L) wr va (alng xs ds tq) by have := HG4.rf; rw [List.take_of_length_le (by omega)] at this; exact this)
      subst hvs
      have HEK := hid e9; have HVC := hid hvc
      replace HB := hid (HB.out.trans (HB2.out.mono HB.out.size))
      clear HG2 HB2 hgl hcl e9 hvc HX HD BY BT
      go_wp2
      go_ret2
      exact ⟨HB.out, .inr ⟨rfl, va, vc, by rw [HEK.out]; rfl, by rw [← HEK.out]; exact HVC.out, HG4.out⟩⟩
end Go.Proofs.YtlemkhgicdnlnaaGreat
namespace Go.Proofs.YtlemkhgicdnlnaaGreat
open Go.RowKit

end Go.Proofs.YtlemkhgicdnlnaaGreat
namespace Go.Proofs.YtlemkhgicdnlnaaGreat
open Go.RowKit

theorem pckE_ok {M : Mo} {k : Nat} {X : Nat → Nm} (h1 : chkE M = 0) (h2 : afB k X = true) (h3 : k = M.ck) : pckE M k X = 0 := by
  unfold pckE
  rw [h1, show pnE k X M.ck = 0 by unfold pnE; rw [if_pos h2, if_pos (by rw [h3])]]
  rfl
theorem rRec_q {w : World} {L : Nat} {M : Mo} {off : Rat} {cs : List CV} {rs : List RV} {ao : Option Addr} {k cap : Nat} {ds : List Rat} (h : MoV L w M off cs rs) (ho : mvOk cs rs = true) (hx : Rf L w ao ds) (hk : ds.length = k) (hkc : k = cs.length) (hL : L ≤ 30) :
    Calls Tryz.prog 13 #[M.val, .slice ao k cap] w fun e w' => e = .returned (.tuple #[.bool (recB 0 0 cs rs ds), .int .i64 0]) ∧ Below w.heap.size w w' := by
  obtain ⟨h1, h2⟩ := h.chk (by omega) ho
  obtain ⟨X, h3, h4⟩ := rf_rl hx (by omega)
  have mp := mvOk_p ho
  rw [hk] at h3 h4
  exact rRec_v (fun _ _ => h2) h3 (by have := mp.cl; omega) h1 (pckE_ok h1 h4 (by rw [h.ck]; exact hkc)) (fun _ => ⟨h, ho, hx, hk, hkc⟩) hL
theorem rValid_q {w : World} {L : Nat} {M : Mo} {off : Rat} {cs : List CV} {rs : List RV} {ao : Option Addr} {k cap : Nat} {ds : List Rat} {ax : Option Addr} {kx capx : Nat} {xs : List Rat} (h : MoV L w M off cs rs) (ho : mvOk cs rs = true) (hx : Rf L w ao ds) (hk : ds.length = k) (hkc : k = cs.length) (hy : Rf L w ax xs) (hkx : xs.length = kx) (hkxc : kx = cs.length) (hL : L ≤ 30) :
    Calls Tryz.prog 9 #[M.val, .agg #[.slice ax kx capx, .slice ao k cap]] w fun e w' => e = .returned (.tuple #[.bool (valB 0 0 0 cs rs ds xs), .int .i64 0]) ∧ Below w.heap.size w w' := by
  obtain ⟨h1, h2⟩ := h.chk (by omega) ho
  obtain ⟨X, h3, h4⟩ := rf_rl hx (by omega)
  obtain ⟨Y, h5, h6⟩ := rf_rl hy (by omega)
  have mp := mvOk_p ho
  rw [hk] at h3 h4
  rw [hkx] at h5 h6
  exact rValid_v (fun _ _ => h2) h3 (by have := mp.cl; omega) h1 (pckE_ok h1 h4 (by rw [h.ck]; exact hkc)) (fun _ => ⟨h, ho, hx, hk, hkc⟩) hL h5 (by have := mp.cl; omega) (pckE_ok h1 h6 (by rw [h.ck]; exact hkxc)) (fun _ => ⟨h, ho, hy, hkx, hkxc⟩)
theorem rAlong_q {w : World} {L : Nat} {ax : Option Addr} {kx capx : Nat} {ao : Option Addr} {k cap : Nat} {ts : Bool} {tx : Option Addr} {tn tc : Nat} {tf : Nat → Int} {ty : Option Addr} {tm td : Nat} {tg : Nat → Int} {xs ds : List Rat} {tq : Rat} (hy : Rf L w ax xs) (hkx : xs.length = kx) (hx : Rf L w ao ds) (hk : ds.length = k) (hkk : k = kx) (ht : Rn L w ts tx tn tc tf ty tm td tg tq) (hL : L ≤ 60) (h9 : kx ≤ 1000) :
    Calls Tryz.prog 17 #[.agg #[.slice ax kx capx, .slice ao k cap], .agg #[.bool ts, .slice tx tn tc, .slice ty tm td]] w fun e w' => ∃ a c, e = .returned (.tuple #[.slice a kx c, .int .i64 0]) ∧ Below w.heap.size w w' ∧ (kx ≤ c ∧ c ≤ 9223372036854775807) ∧ Hid (Rf (KL L) w' a (alng xs ds tq)) := by
  obtain ⟨X, h3, h4⟩ := rf_rl hx (by omega)
  obtain ⟨Y, h5, h6⟩ := rf_rl hy (by omega)
  rw [hk] at h3 h4
  rw [hkx] at h5 h6
  have hn9 := Rn.nm (t := ⟨ts, tx, tn, tc, tf, ty, tm, td, tg⟩) ht
  obtain ⟨h7, h8⟩ := hn9 (by omega)
  have he : alE ⟨ts, tx, tn, tc, tf, ty, tm, td, tg⟩ kx Y k X = 0 := by
    unfold alE
    rw [show pnE 1 (fun _ => (⟨ts, tx, tn, tc, tf, ty, tm, td, tg⟩ : Nm)) 1 = 0 by unfold pnE; rw [if_pos (show afB 1 _ = true by simp [afB, afr, h8])]; rfl, show pnE kx Y kx = 0 by unfold pnE; rw [if_pos h6, if_pos rfl], show pnE k X kx = 0 by unfold pnE; rw [if_pos h4, if_pos (by rw [hkk])]]
    rfl
  refine (rAlong_v h5 h3 h7 (by omega) (by omega) he (fun _ => ⟨hy, hkx, hx, hk, hkk, ht⟩) hL).mono ?_
  rintro e w' ⟨hb, ⟨h0, _⟩ | ⟨_, a, c, rfl, hc, hr⟩⟩
  · exact absurd rfl h0
  · exact ⟨a, c, rfl, hb, hc, hr⟩
set_option maxRecDepth 100000 in
theorem one13_c {w : World} {z : Int} (h0 : -1000 ≤ z) (h1 : z ≤ 1000) : Calls Tryz.prog 28 #[.int .i64 z] w fun e w' => ∃ a, e = .returned (.slice a 1 1) ∧ Below w.heap.size w w' ∧ Hid (Rf 4 w' a [(z : Rat)]) := by
  go_enter Tryz.func28, Tryz.ntmps28
  go_wp2_with fail
  refine (docOfQ_c (z := z) (by omega) (by omega)).mono ?_
  rintro e w1 ⟨s, x, n, c, f, y, m, d, g, rfl, hb, hr⟩
  have HR := hid (show Rf 4 (w1.alloc (.cells #[.bool s, .slice x n c, .slice y m d] 24)) (some ⟨w1.heap.size, 0, none⟩) [(z : Rat)] from (gr_one (base := 0) hr (Nat.zero_le _)).rf)
  have HB := hid (below_alloc hb (.cells #[.bool s, .slice x n c, .slice y m d] 24))
  clear hr hb
  go_wp2
  go_ret
  exact ⟨_, rfl, HB.out, HR.out⟩
/-- The values of law13's first. -/
def fiC : List CV := [⟨⟨#[120]⟩, 1, -1, 0, 1, 0⟩]
set_option maxRecDepth 100000 in
set_option maxHeartbeats 4000000 in
theorem first13_c {w : World} : Calls Tryz.prog 27 #[] w fun e w' => ∃ M : Mo, e = .returned M.val ∧ Below w.heap.size w w' ∧ Hid (MoV 8 w' M 0 fiC []) := by
  go_enter Tryz.func27, Tryz.ntmps27
  go_wp2_with fail
  have HB := hid (below_alloc (Below.refl w.heap.size w) (.cells #[.bool false, .slice none 0 0, .slice none 0 0, .slice none 0 0, .slice none 0 0] 28))
  have O0 : Hid (Bk (w.alloc (.cells #[.bool false, .slice none 0 0, .slice none 0 0, .slice none 0 0, .slice none 0 0] 28)) w.heap.size [.bool false, .slice none 0 0, .slice none 0 0, .slice none 0 0, .slice none 0 0] 28) := bk_new w [.bool false, .slice none 0 0, .slice none 0 0, .slice none 0 0, .slice none 0 0] 28
  generalize w.alloc (.cells #[.bool false, .slice none 0 0, .slice none 0 0, .slice none 0 0, .slice none 0 0] 28) = w0 at *
  refine (docOfQ_c (z := 0) (by decide) (by decide)).mono ?_
  rintro e w1 ⟨s1, x1, n1, c1, f1, y1, m1, d1, g1, rfl, hb, hr⟩
  replace HB := hid (HB.out.trans (hb.mono HB.out.size)); replace O0 := hid (O0.out.below hb)
  have R1 := hid hr
  clear hb hr
  go_wp2_with fail
  refine (docOfQ_c (z := 1) (by decide) (by decide)).mono ?_
  rintro e w2 ⟨s2, x2, n2, c2, f2, y2, m2, d2, g2, rfl, hb, hr⟩
  replace HB := hid (HB.out.trans (hb.mono HB.out.size)); replace O0 := hid (O0.out.below hb); replace R1 := hid (R1.out.below hb)
  have R2 := hid hr
  clear hb hr
  go_wp2_with fail
  refine (xLow_c).mono ?_
  rintro e w3 ⟨s3, x3, n3, c3, f3, y3, m3, d3, g3, rfl, hb, hF⟩
  replace HB := hid (HB.out.trans (hb.mono HB.out.size)); replace O0 := hid (O0.out.below hb); replace R1 := hid (R1.out.below hb); replace R2 := hid (R2.out.below hb)
  clear hb
  go_wp2_with fail
  refine (xTo_c hF.out.2.2 (by have := hF.out; omega) (by have := hF.out; omega)).mono ?_
  rintro e w4 ⟨z4, k4, t4, p4, v4, l4, q4, r4, rfl, hb, hE⟩
  replace HB := hid (HB.out.trans (hb.mono HB.out.size)); replace O0 := hid (O0.out.below hb); replace R1 := hid (R1.out.below hb); replace R2 := hid (R2.out.below hb)
  have E3 := hid (hE.out.rn.mono (show _ ≤ 8 by have := hF.out; omega))
  clear hb hE hF
  go_wp2_with fail
  refine (xHigh_c).mono ?_
  rintro e w5 ⟨s5, x5, n5, c5, f5, y5, m5, d5, g5, rfl, hb, hF⟩
  replace HB := hid (HB.out.trans (hb.mono HB.out.size)); replace O0 := hid (O0.out.below hb); replace R1 := hid (R1.out.below hb); replace R2 := hid (R2.out.below hb); replace E3 := hid (E3.out.below hb)
  clear hb
  go_wp2_with fail
  refine (xTo_c hF.out.2.2 (by have := hF.out; omega) (by have := hF.out; omega)).mono ?_
  rintro e w6 ⟨z6, k6, t6, p6, v6, l6, q6, r6, rfl, hb, hE⟩
  replace HB := hid (HB.out.trans (hb.mono HB.out.size)); replace O0 := hid (O0.out.below hb); replace R1 := hid (R1.out.below hb); replace R2 := hid (R2.out.below hb); replace E3 := hid (E3.out.below hb)
  have E5 := hid (hE.out.rn.mono (show _ ≤ 8 by have := hF.out; omega))
  clear hb hE hF
  skip
  have hn := below_alloc (Below.refl w6.heap.size w6) (.cells #[.string ⟨#[120]⟩, .bool s2, .slice x2 n2 c2, .slice y2 m2 d2, .int .i64 (-1), .bool s3, .slice z4 k4 t4, .slice v4 l4 q4, .int .i64 1, .bool s5, .slice z6 k6 t6, .slice v6 l6 q6] 72)
  have HCs : Hid (Cs (w6.alloc (.cells #[.string ⟨#[120]⟩, .bool s2, .slice x2 n2 c2, .slice y2 m2 d2, .int .i64 (-1), .bool s3, .slice z4 k4 t4, .slice v4 l4 q4, .int .i64 1, .bool s5, .slice z6 k6 t6, .slice v6 l6 q6] 72)) w6.heap.size 0 [.string ⟨#[120]⟩, .bool s2, .slice x2 n2 c2, .slice y2 m2 d2, .int .i64 (-1), .bool s3, .slice z4 k4 t4, .slice v4 l4 q4, .int .i64 1, .bool s5, .slice z6 k6 t6, .slice v6 l6 q6]) := cs_new w6 72 [.string ⟨#[120]⟩, .bool s2, .slice x2 n2 c2, .slice y2 m2 d2, .int .i64 (-1), .bool s3, .slice z4 k4 t4, .slice v4 l4 q4, .int .i64 1, .bool s5, .slice z6 k6 t6, .slice v6 l6 q6] [.string ⟨#[120]⟩, .bool s2, .slice x2 n2 c2, .slice y2 m2 d2, .int .i64 (-1), .bool s3, .slice z4 k4 t4, .slice v4 l4 q4, .int .i64 1, .bool s5, .slice z6 k6 t6, .slice v6 l6 q6] 0 (fun j v e => by rw [Nat.zero_add]; exact e)
  replace HB := hid (HB.out.trans (hn.mono HB.out.size)); replace O0 := hid (O0.out.below hn); replace R1 := hid (R1.out.below hn); replace R2 := hid (R2.out.below hn); replace E3 := hid (E3.out.below hn); replace E5 := hid (E5.out.below hn)
  clear hn
  have HMo : Hid (MoV 8 (w6.alloc (.cells #[.string ⟨#[120]⟩, .bool s2, .slice x2 n2 c2, .slice y2 m2 d2, .int .i64 (-1), .bool s3, .slice z4 k4 t4, .slice v4 l4 q4, .int .i64 1, .bool s5, .slice z6 k6 t6, .slice v6 l6 q6] 72)) ⟨⟨s1, x1, n1, c1, f1, y1, m1, d1, g1⟩, some ⟨w6.heap.size, 0, none⟩, 1, 1, fun _ => ⟨⟨#[120]⟩, ⟨s2, x2, n2, c2, f2, y2, m2, d2, g2⟩, ⟨-1, ⟨s3, z4, k4, t4, p4, v4, l4, q4, r4⟩⟩, ⟨1, ⟨s5, z6, k6, t6, p6, v6, l6, q6, r6⟩⟩⟩, none, 0, 0, fun _ => ⟨⟨#[]⟩, ⟨0, ⟨false, none, 0, 0, fun _ => 0, none, 0, 0, fun _ => 0⟩⟩, ⟨0, ⟨false, none, 0, 0, fun _ => 0, none, 0, 0, fun _ => 0⟩⟩, none, 0, 0, fun _ => 0, fun _ => ⟨false, none, 0, 0, fun _ => 0, none, 0, 0, fun _ => 0⟩⟩⟩ 0 fiC []) := by
    refine ⟨R1.out.mono (by decide), rfl, rfl, fun j v e => ?_, fun j v e => by simp at e⟩
    match j, e with
    | 0, e => cases e; exact ⟨⟨_, 0, rfl, HCs.out⟩, rfl, R2.out.mono (by decide), rfl, E3.out, rfl, E5.out⟩
  obtain ⟨hk1, hk2⟩ := kp_st5 (w := (w6.alloc (.cells #[.string ⟨#[120]⟩, .bool s2, .slice x2 n2 c2, .slice y2 m2 d2, .int .i64 (-1), .bool s3, .slice z4 k4 t4, .slice v4 l4 q4, .int .i64 1, .bool s5, .slice z6 k6 t6, .slice v6 l6 q6] 72))) (w' := (((((w6.alloc (.cells #[.string ⟨#[120]⟩, .bool s2, .slice x2 n2 c2, .slice y2 m2 d2, .int .i64 (-1), .bool s3, .slice z4 k4 t4, .slice v4 l4 q4, .int .i64 1, .bool s5, .slice z6 k6 t6, .slice v6 l6 q6] 72)).setCell ⟨w.heap.size, 0, none⟩ (.bool s1)).setCell ⟨w.heap.size, 1, none⟩ (.slice x1 n1 c1)).setCell ⟨w.heap.size, 2, none⟩ (.slice y1 m1 d1)).setCell ⟨w.heap.size, 3, none⟩ (.slice (some ⟨w6.heap.size, 0, none⟩) 1 1)).setCell ⟨w.heap.size, 4, none⟩ (.slice none 0 0)) O0.out (nou5 _ _ _ _ _ _ _ _ _ _ _ _ _) rfl
  have HM2 := hid (HMo.out.kp hk1 hk2 (noc5 O0.out))
  have HB2 := hid (below_st5 (u0 := .bool s1) (u1 := .slice x1 n1 c1) (u2 := .slice y1 m1 d1) (u3 := .slice (some ⟨w6.heap.size, 0, none⟩) 1 1) (u4 := .slice none 0 0) HB.out (Nat.le_refl w.heap.size))
  have l0 := O0.out.cell (j := 0) rfl
  have l1 := O0.out.cell (j := 1) rfl
  have l2 := O0.out.cell (j := 2) rfl
  have l3 := O0.out.cell (j := 3) rfl
  have l4 := O0.out.cell (j := 4) rfl
  have ff := O0.out.frozen
  clear hk1 hk2 HMo HB O0 R1 R2 E3 E5 HCs
  go_wp2
  exact bodyPost_ret (v := .agg #[.bool s1, .slice x1 n1 c1, .slice y1 m1 d1, .slice (some ⟨w6.heap.size, 0, none⟩) 1 1, .slice none 0 0]) (by simp [results, Tryz.results27, go_sem, l0, l1, l2, l3, l4]) rfl ⟨_, rfl, HB2.out, HM2.out⟩
end Go.Proofs.YtlemkhgicdnlnaaGreat
namespace Go.Proofs.YtlemkhgicdnlnaaGreat
open Go.RowKit

theorem rSameEq_c {L L' w sa xa na ca fa ya ma da ga sb xb nb cb fb yb mb db gb q} (ha : Rn L w sa xa na ca fa ya ma da ga q) (hb : Rn L' w sb xb nb cb fb yb mb db gb q) (h1 : L ≤ 1048576) (h2 : L' ≤ 1048576) :
    Calls Tryz.prog 30 #[.agg #[.bool sa, .slice xa na ca, .slice ya ma da], .agg #[.bool sb, .slice xb nb cb, .slice yb mb db]] w fun e w' => e = .returned (.bool true) ∧ Below w.heap.size w w' := by
  have l1 := ha.ln; have l2 := ha.ld; have l3 := hb.ln; have l4 := hb.ld
  refine (rSame_c sa xa ya na ca ma da fa ga sb xb yb nb cb mb db fb gb w ha.num.rd ha.den.rd hb.num.rd hb.den.rd (by omega) (by omega) (by omega) (by omega)).mono ?_
  rintro e w' ⟨c, rfl, h3, h4⟩
  refine ⟨?_, h3⟩
  rw [h4.2 ((ha.inj hb).2 rfl)]

set_option maxRecDepth 100000 in
set_option maxHeartbeats 4000000 in
theorem samesEq_c {w : World} {L L' : Nat} {ao bo : Option Addr} {k ca cb : Nat} {p : List Rat} (ha : Rf L w ao p) (hb : Rf L' w bo p) (hk : p.length = k) (hk2 : k ≤ 1048576) (h1 : L ≤ 1048576) (h2 : L' ≤ 1048576) :
    Calls Tryz.prog 20 #[.slice ao k ca, .slice bo k cb] w fun e w' => e = .returned (.bool true) ∧ Below w.heap.size w w' := by
  have HA := hid ha; have HB := hid hb
  have hkk : (((k : Nat) : Int) != ((k : Nat) : Int)) = false := by simp
  clear ha hb
  go_enter Tryz.func20, Tryz.ntmps20
  go_wp2_with fail
  go_loopw [13] (fun t wr => ∃ (i : Nat), i ≤ k ∧ t = .int .i64 i ∧ Hid (Below w.heap.size w wr)) (fun t _ => k - (intOf t).toNat)
  case atStart => exact ⟨0, by omega, rfl, Below.refl _ _⟩
  case round =>
    obtain ⟨i, hi, rfl, HW⟩ := hrel
    by_cases hlt : i < k
    · obtain ⟨q, hq⟩ : ∃ q, p[i]? = some q := ⟨_, List.getElem?_eq_getElem (by omega)⟩
      obtain ⟨b, o, ⟨ts, tx, tn, tc, tf, ty, tm, td, tg⟩, rfl, hc, hr⟩ := (HA.out.below HW.out) i q hq
      obtain ⟨b', o', ⟨ss, sx, sn, sc, sf, sy, sm, sd, sg⟩, rfl, hc', hr'⟩ := (HB.out.below HW.out) i q hq
      obtain ⟨x0, x1, x2⟩ := hc
      obtain ⟨p0, p1, p2⟩ := hc'
      replace x0 : wr.cell? ⟨b, o + i * 3, none⟩ = some (.bool ts) := x0
      replace x1 : wr.cell? ⟨b, o + i * 3 + 1, none⟩ = some (.slice tx tn tc) := x1
      replace x2 : wr.cell? ⟨b, o + i * 3 + 2, none⟩ = some (.slice ty tm td) := x2
      replace p0 : wr.cell? ⟨b', o' + i * 3, none⟩ = some (.bool ss) := p0
      replace p1 : wr.cell? ⟨b', o' + i * 3 + 1, none⟩ = some (.slice sx sn sc) := p1
      replace p2 : wr.cell? ⟨b', o' + i * 3 + 2, none⟩ = some (.slice sy sm sd) := p2
      have CS : Hid (∀ W, Below wr.heap.size wr W → Calls Tryz.prog 30 #[.agg #[.bool ts, .slice tx tn tc, .slice ty tm td], .agg #[.bool ss, .slice sx sn sc, .slice sy sm sd]] W fun e w' => e = .returned (.bool true) ∧ Below W.heap.size W w') := fun W hW =>
        rSameEq_c (Rn.below hr hW) (Rn.below hr' hW) h1 h2
      have i2 : ((i : Nat) : Int) < ((k : Nat) : Int) := by omega
      clear hr hr' hq
      go_upto_region 6 with fail
      go_region_held3 (fun w' => w'.cell? ⟨b, o + i * 3, none⟩ = some (.bool ts) ∧ w'.cell? ⟨b, o + i * 3 + 1, none⟩ = some (.slice tx tn tc) ∧ w'.cell? ⟨b, o + i * 3 + 2, none⟩ = some (.slice ty tm td) ∧ w'.cell? ⟨b', o' + i * 3, none⟩ = some (.bool ss) ∧ w'.cell? ⟨b', o' + i * 3 + 1, none⟩ = some (.slice sx sn sc) ∧ w'.cell? ⟨b', o' + i * 3 + 2, none⟩ = some (.slice sy sm sd))
        (refine ⟨?_, ?_, ?_, ?_, ?_, ?_⟩ <;> repeat (with_reducible first | assumption | refine kCd ?_ | refine kCb (by assumption) ?_))
        ((go_at_call 30; with_reducible refine (CS.out _ (by repeat (with_reducible first | assumption | exact Below.refl _ _ | refine kBdn ?_ | refine Below.drew ?_))).mono ?_; rintro e w5 ⟨rfl, hb5⟩))
      all_goals
        (have HW5 : Hid (Below w.heap.size w w5) := hid (HW.out.trans (Below.mono (show Below wr.heap.size wr w5 by repeat (with_reducible first | assumption | exact Below.refl _ _ | refine kBdn ?_ | refine Below.drew ?_ | refine kBb (by assumption) ?_)) HW.out.size))
         clear x0 x1 x2 p0 p1 p2 CS hb5
         go_wp2
         go_roundw
         case rel => exact ⟨i + 1, by omega, by go_num, (by first | exact HW5.out | exact HW5.out.drew | exact below_drewN HW5.out _)⟩
         case measure => simp [intOf]; omega)
    · have i2 : ¬ (((i : Nat) : Int) < ((k : Nat) : Int)) := by omega
      go_wp2
      go_ret
      exact ⟨rfl, HW.out⟩

end Go.Proofs.YtlemkhgicdnlnaaGreat
namespace Go.Proofs.YtlemkhgicdnlnaaGreat
open Go.RowKit

theorem fi_ok : mvOk fiC [] = true := by decide +kernel
theorem fi_v1 : valB 0 0 0 fiC [] [((-1 : Int) : Rat)] [((0 : Int) : Rat)] = true := by decide +kernel
theorem fi_v2 : valB 0 0 0 fiC [] [((1 : Int) : Rat)] [((0 : Int) : Rat)] = false := by decide +kernel
theorem fi_rec : recB 0 0 fiC [] [((5 : Int) : Rat)] = true := by decide +kernel
theorem fi_al : alng [((1 : Int) : Rat)] [((2 : Int) : Rat)] ((3 : Int) : Rat) = [((7 : Int) : Rat)] := by decide +kernel
set_option maxRecDepth 100000 in
set_option maxHeartbeats 8000000 in
theorem awake13_c (w : World) : Calls Tryz.prog 6 #[] w fun e w' => e = .returned (.bool true) ∧ Below w.heap.size w w' := by
  have HB := hid (Below.refl w.heap.size w)
  go_enter Tryz.func6, Tryz.ntmps6
  go_wp2_with fail
  refine first13_c.mono ?_
  rintro e v2 ⟨⟨⟨sm, xm, nm, cm, fm, ym, mm, dm, gm⟩, cam, ckm, ccm, Cm, ram, rkm, rcm, Rm⟩, rfl, hb, HM⟩
  replace HB := hid (HB.out.trans (hb.mono HB.out.size))
  clear hb
  go_wp2_with fail
  refine (one13_c (z := 0) (by decide) (by decide)).mono ?_
  rintro e v3 ⟨ax, rfl, hb, Hax⟩
  replace HB := hid (HB.out.trans (hb.mono HB.out.size)); replace HM := hid (HM.out.below hb)
  clear hb
  go_wp2_with fail
  refine (one13_c (z := -1) (by decide) (by decide)).mono ?_
  rintro e v4 ⟨ad, rfl, hb, Had⟩
  replace HB := hid (HB.out.trans (hb.mono HB.out.size)); replace HM := hid (HM.out.below hb); replace Hax := hid (Hax.out.below hb)
  clear hb
  go_wp2_with fail
  refine (rValid_q (L := 8) HM.out fi_ok (Had.out.mono (by decide)) rfl rfl (Hax.out.mono (by decide)) rfl rfl (by decide)).mono ?_
  rintro e v1 ⟨rfl, hb⟩
  rw [fi_v1]
  replace HB := hid (HB.out.trans (hb.mono HB.out.size))
  clear hb HM Hax Had
  go_wp2_with fail
  refine first13_c.mono ?_
  rintro e v6 ⟨⟨⟨sm, xm, nm, cm, fm, ym, mm, dm, gm⟩, cam, ckm, ccm, Cm, ram, rkm, rcm, Rm⟩, rfl, hb, HM⟩
  replace HB := hid (HB.out.trans (hb.mono HB.out.size))
  clear hb
  go_wp2_with fail
  refine (one13_c (z := 0) (by decide) (by decide)).mono ?_
  rintro e v7 ⟨ax, rfl, hb, Hax⟩
  replace HB := hid (HB.out.trans (hb.mono HB.out.size)); replace HM := hid (HM.out.below hb)
  clear hb
  go_wp2_with fail
  refine (one13_c (z := 1) (by decide) (by decide)).mono ?_
  rintro e v8 ⟨ad, rfl, hb, Had⟩
  replace HB := hid (HB.out.trans (hb.mono HB.out.size)); replace HM := hid (HM.out.below hb); replace Hax := hid (Hax.out.below hb)
  clear hb
  go_wp2_with fail
  refine (rValid_q (L := 8) HM.out fi_ok (Had.out.mono (by decide)) rfl rfl (Hax.out.mono (by decide)) rfl rfl (by decide)).mono ?_
  rintro e v5 ⟨rfl, hb⟩
  rw [fi_v2]
  replace HB := hid (HB.out.trans (hb.mono HB.out.size))
  clear hb HM Hax Had
  go_wp2_with fail
  refine (one13_c (z := 1) (by decide) (by decide)).mono ?_
  rintro e v9 ⟨ax, rfl, hb, Hax⟩
  replace HB := hid (HB.out.trans (hb.mono HB.out.size))
  clear hb
  go_wp2_with fail
  refine (one13_c (z := 2) (by decide) (by decide)).mono ?_
  rintro e v10 ⟨ad, rfl, hb, Had⟩
  replace HB := hid (HB.out.trans (hb.mono HB.out.size)); replace Hax := hid (Hax.out.below hb)
  clear hb
  go_wp2_with fail
  refine (docOfQ_c (z := 3) (by decide) (by decide)).mono ?_
  rintro e w1 ⟨s1, x1, n1, c1, f1, y1, m1, d1, g1, rfl, hb, hr⟩
  replace HB := hid (HB.out.trans (hb.mono HB.out.size)); replace Hax := hid (Hax.out.below hb); replace Had := hid (Had.out.below hb)
  have HR := hid hr
  clear hb hr
  go_wp2_with fail
  refine (rAlong_q (L := 4) Hax.out rfl Had.out rfl rfl HR.out (by decide) (by decide)).mono ?_
  rintro e w2 ⟨aa, ac, rfl, hb, hac, HA⟩
  rw [fi_al] at HA
  replace HB := hid (HB.out.trans (hb.mono HB.out.size))
  have HAC := hid hac
  clear hb hac Hax Had HR
  go_wp2_with fail
  refine first13_c.mono ?_
  rintro e v11 ⟨⟨⟨sm, xm, nm, cm, fm, ym, mm, dm, gm⟩, cam, ckm, ccm, Cm, ram, rkm, rcm, Rm⟩, rfl, hb, HM⟩
  replace HB := hid (HB.out.trans (hb.mono HB.out.size)); replace HA := hid (HA.out.below hb)
  clear hb
  go_wp2_with fail
  refine (one13_c (z := 5) (by decide) (by decide)).mono ?_
  rintro e v12 ⟨ad, rfl, hb, Had⟩
  replace HB := hid (HB.out.trans (hb.mono HB.out.size)); replace HM := hid (HM.out.below hb); replace HA := hid (HA.out.below hb)
  clear hb
  go_wp2_with fail
  refine (rRec_q (L := 8) HM.out fi_ok (Had.out.mono (by decide)) rfl rfl (by decide)).mono ?_
  rintro e w3 ⟨rfl, hb⟩
  rw [fi_rec]
  replace HB := hid (HB.out.trans (hb.mono HB.out.size)); replace HA := hid (HA.out.below hb)
  clear hb HM Had
  obtain ⟨b, o, ⟨s, x, n, c, f, y, m, d, g⟩, hb1, ⟨p0, p1, p2⟩, hr⟩ := HA.out 0 _ rfl
  subst hb1
  replace p0 : w3.cell? ⟨b, o, none⟩ = some (.bool s) := p0
  replace p1 : w3.cell? ⟨b, o + 1, none⟩ = some (.slice x n c) := p1
  replace p2 : w3.cell? ⟨b, o + 2, none⟩ = some (.slice y m d) := p2
  have HR : Hid (Rn (KL 4) w3 s x n c f y m d g ((7 : Int) : Rat)) := hr
  clear hr HA
  go_upto_region 5 with fail
  have CD := hid (fun W => docOfQ_c (w := W) (z := 7) (by decide) (by decide))
  unfold RatAns at CD
  have CS : Hid (∀ W s2 x2 n2 c2 f2 y2 m2 d2 g2, Below w3.heap.size w3 W → Rn 4 W s2 x2 n2 c2 f2 y2 m2 d2 g2 ((7 : Int) : Rat) → Calls Tryz.prog 30 #[.agg #[.bool s, .slice x n c, .slice y m d], .agg #[.bool s2, .slice x2 n2 c2, .slice y2 m2 d2]] W fun e w' => e = .returned (.bool true) ∧ Below W.heap.size W w') := fun W s2 x2 n2 c2 f2 y2 m2 d2 g2 hW h2 => rSameEq_c (HR.out.below hW) h2 (by decide) (by decide)
  go_region_held3 (fun w' => w'.cell? ⟨b, o, none⟩ = some (.bool s) ∧ w'.cell? ⟨b, o + 1, none⟩ = some (.slice x n c) ∧ w'.cell? ⟨b, o + 2, none⟩ = some (.slice y m d))
    (refine ⟨?_, ?_, ?_⟩ <;> repeat (with_reducible first | assumption | refine kCd ?_ | refine kCb (by assumption) ?_))
    (first
      | (go_at_call 29; with_reducible refine (CD.out _).mono ?_; rintro e w4 ⟨s2, x2, n2, c2, f2, y2, m2, d2, g2, rfl, hb4, H4⟩; replace H4 := hid H4)
      | (go_at_call 30; with_reducible refine (CS.out _ s2 x2 n2 c2 f2 y2 m2 d2 g2 (by repeat (with_reducible first | assumption | exact Below.refl _ _ | refine Below.drew ?_ | refine kBa ?_ | refine kBb (by assumption) ?_)) H4.out).mono ?_; rintro e w5 ⟨rfl, hb5⟩))
  have HB5 := hid (HB.out.trans ((show Below w3.heap.size w3 w5 from (by repeat (with_reducible first | assumption | exact Below.refl _ _ | refine Below.drew ?_ | refine kBa ?_ | refine kBb (by assumption) ?_))).mono HB.out.size))
  clear hb4 hb5 H4 p0 p1 p2 CD CS HR
  go_wp2
  go_ret
  exact ⟨rfl, HB5.out⟩
end Go.Proofs.YtlemkhgicdnlnaaGreat
namespace Go.Proofs.YtlemkhgicdnlnaaGreat
open Go.RowKit

/-- What operations of From leave. -/
def FN (K : Nat) (q : Rat) (v : Value) (w : World) : Prop := ∃ t' : Nm, v = t'.val ∧ QnT K w t' q
theorem FN.below {K t v w w'} (h : FN K t v w) (hb : Below w.heap.size w w') : FN K t v w' := by obtain ⟨t', h1, h2⟩ := h; exact ⟨t', h1, h2.below hb⟩
end Go.Proofs.YtlemkhgicdnlnaaGreat
namespace Go.Proofs.YtlemkhgicdnlnaaGreat
open Go.RowKit

theorem NmS.val {w : World} {t : Nm} {K : Nat} (h : NmS w t) (hf : nfB t = true) (hk : t.n ≤ K ∧ t.m ≤ K) : NmV K w t (nq t) := by
  obtain ⟨q, hq⟩ := Nm.rn h hf hk.1 hk.2
  rw [hq.nq]; exact hq
theorem range_at {α : Type} {f : Nat → α} {n j : Nat} {v : α} (h : ((List.range n).map f)[j]? = some v) : j < n ∧ v = f j := by
  have hlt : j < n := by have := (List.getElem?_eq_some_iff.1 h).1; simpa using this
  simp [hlt] at h
  exact ⟨hlt, h.symm⟩
theorem FnT.of {K w} {e : Ex} {i : Int} {q : Rat} (h : QnT K w e.v q) (hi : e.i = i) (hb : i = 0 ∨ (i = -1 ∨ i = 1) ∧ q = 0) : Fn w e.i e.v.s e.v.x e.v.n e.v.f e.v.y e.v.m e.v.g q := ⟨h.2.2, by rw [hi]; exact hb⟩

end Go.Proofs.YtlemkhgicdnlnaaGreat
namespace Go.Proofs.YtlemkhgicdnlnaaGreat
open Go.RowKit

end Go.Proofs.YtlemkhgicdnlnaaGreat
namespace Go.Proofs.YtlemkhgicdnlnaaGreat
open Go.RowKit

end Go.Proofs.YtlemkhgicdnlnaaGreat
namespace Go.Proofs.YtlemkhgicdnlnaaGreat
open Go.RowKit

theorem El.below {w w' ao k E} (h : El w ao k E) (hb : Below w.heap.size w w') : El w' ao k E := fun j hj => by
  obtain ⟨b, o, e, h1⟩ := h j hj
  exact ⟨b, o, e, kCb hb h1⟩
end Go.Proofs.YtlemkhgicdnlnaaGreat
namespace Go.Proofs.YtlemkhgicdnlnaaGreat
open Go.RowKit

theorem Sn.trans {a b c : Nm} (h : Sn a b) (k : Sn b c) : Sn a c := by
  obtain ⟨h1, h2, h3, h4, h5⟩ := h
  obtain ⟨k1, k2, k3, k4, k5⟩ := k
  exact ⟨k1.trans h1, k2.trans h2, k3.trans h3, k4.trans h4, k5.trans h5⟩
end Go.Proofs.YtlemkhgicdnlnaaGreat
namespace Go.Proofs.YtlemkhgicdnlnaaGreat
open Go.RowKit

theorem Sn.nq {t t' : Nm} (h : Sn t t') : nq t' = nq t := by
  obtain ⟨h1, h2, h3, h4, h5⟩ := h
  unfold Go.Proofs.YtlemkhgicdnlnaaGreat.nq
  rw [h1, h2, h3, h4, h5]
/-- A list's numbers. -/
def psOf (k : Nat) (X : Nat → Nm) : List Rat := (List.range k).map (fun j => nq (X j))
theorem psOf_len (k : Nat) (X : Nat → Nm) : (psOf k X).length = k := by simp [psOf]
theorem psOf_sn {k : Nat} {X X' : Nat → Nm} (h : ∀ j, j < k → Sn (X j) (X' j)) : psOf k X' = psOf k X := List.map_congr_left (fun j hj => (h j (List.mem_range.1 hj)).nq)
theorem Rl.rfC {w : World} {ao : Option Addr} {k K : Nat} {X : Nat → Nm} (h : Rl w ao k X) (hf : afB k X = true) (hk : ∀ j, j < k → (X j).n ≤ K ∧ (X j).m ≤ K) : Rf K w ao (psOf k X) := fun j q e => by
  obtain ⟨hj, rfl⟩ := range_at e
  obtain ⟨b, o, h1, h2, h3⟩ := h j hj
  exact ⟨b, o, X j, h1, h2, NmS.val h3 (afr_all hf j (by omega) (by omega)) (hk j hj)⟩
theorem alng_get {xs ds : List Rat} {t : Rat} (j : Nat) : (alng xs ds t)[j]? = (xs[j]?.bind fun x => ds[j]?.map fun d => 0 + x + t * d) := by
  unfold alng
  rw [List.getElem?_zipWith]
  cases xs[j]? <;> cases ds[j]? <;> rfl
theorem alng_len {xs ds : List Rat} {t : Rat} (h : xs.length = ds.length) : (alng xs ds t).length = xs.length := by unfold alng; rw [List.length_zipWith, h, Nat.min_self]
end Go.Proofs.YtlemkhgicdnlnaaGreat
namespace Go.Proofs.YtlemkhgicdnlnaaGreat
open Go.RowKit

/-- Are a list's numbers of at most K limbs, and not too many? -/
def lgL (K k : Nat) (X : Nat → Nm) : Bool := decide (k ≤ 300) && nlg K X k 0
set_option maxRecDepth 100000 in
set_option maxHeartbeats 4000000 in
theorem light13_c {w : World} {ax : Option Addr} {kx capx : Nat} {Y : Nat → Nm} {ao : Option Addr} {k cap : Nat} {X : Nat → Nm} (K : Nat) (hy : Rr w ax kx Y) (hx : Rr w ao k X) (hkx : kx ≤ 9223372036854775807) (hk : k ≤ 9223372036854775807) :
    Calls Tryz.prog 8 #[.agg #[.slice ax kx capx, .slice ao k cap], .int .i64 K] w fun e w' => e = .returned (.bool (lgL K kx Y && lgL K k X)) ∧ Below w.heap.size w w' := by
  have C1 : Hid (∀ W, Below w.heap.size w W → Calls Tryz.prog 31 #[.slice ax kx capx, .int .i64 K] W fun e w' => e = .returned (.bool (lgL K kx Y)) ∧ Below W.heap.size W w') := fun W hW => rLights_c K (hy.below hW) hkx
  have C2 : Hid (∀ W, Below w.heap.size w W → Calls Tryz.prog 31 #[.slice ao k cap, .int .i64 K] W fun e w' => e = .returned (.bool (lgL K k X)) ∧ Below W.heap.size W w') := fun W hW => rLights_c K (hx.below hW) hk
  obtain ⟨p, hp⟩ : ∃ p, lgL K kx Y = p := ⟨_, rfl⟩
  obtain ⟨q, hq⟩ : ∃ q, lgL K k X = q := ⟨_, rfl⟩
  rw [hp] at C1 ⊢
  rw [hq] at C2 ⊢
  clear hp hq hx hy
  have BY : Hid (Bk (w.alloc (.cells #[.slice ax kx capx, .slice ao k cap] 31)) w.heap.size [.slice ax kx capx, .slice ao k cap] 31) := bk_new w [.slice ax kx capx, .slice ao k cap] 31
  have HB := hid (below_alloc (Below.refl w.heap.size w) (.cells #[.slice ax kx capx, .slice ao k cap] 31))
  go_enter Tryz.func8, Tryz.ntmps8
  have t0 := BY.out.cell (j := 0) rfl
  go_wp2_with fail
  clear t0
  generalize w.alloc (.cells #[.slice ax kx capx, .slice ao k cap] 31) = w0 at *
  refine (C1.out _ HB.out).mono ?_
  rintro e w1 ⟨rfl, hb⟩
  replace HB := hid (HB.out.trans (hb.mono HB.out.size)); replace BY := hid (BY.out.below hb)
  clear hb
  cases p
  · go_wp2
    go_ret
    exact ⟨rfl, HB.out⟩
  have t1 := BY.out.cell (j := 1) rfl
  go_wp2_with fail
  clear t1
  refine (C2.out _ HB.out).mono ?_
  rintro e w2 ⟨rfl, hb⟩
  replace HB := hid (HB.out.trans (hb.mono HB.out.size))
  clear hb
  go_wp2
  go_ret
  exact ⟨rfl, HB.out⟩
/-- What a twin of a ray is. -/
def TwY (w w' : World) (e : Ending) (kx : Nat) (Y : Nat → Nm) (k : Nat) (X : Nat → Nm) : Prop := ∃ bx cx Y' bo co X', e = .returned (.agg #[.slice bx kx cx, .slice bo k co]) ∧ Below w.heap.size w w' ∧ ((kx ≤ cx ∧ cx ≤ 9223372036854775807) ∧ k ≤ co ∧ co ≤ 9223372036854775807) ∧ Hid ((Rl w' bx kx Y' ∧ ∀ j, j < kx → Sn (Y j) (Y' j)) ∧ Rl w' bo k X' ∧ ∀ j, j < k → Sn (X j) (X' j))
set_option maxRecDepth 100000 in
set_option maxHeartbeats 4000000 in
theorem twin13_c {w : World} {ax : Option Addr} {kx capx : Nat} {Y : Nat → Nm} {ao : Option Addr} {k cap : Nat} {X : Nat → Nm} (hy : Rl w ax kx Y) (hx : Rl w ao k X) (hkx : kx ≤ 10000) (hk : k ≤ 10000) (ly : ∀ j, j < kx → (Y j).n ≤ 1000 ∧ (Y j).m ≤ 1000) (lx : ∀ j, j < k → (X j).n ≤ 1000 ∧ (X j).m ≤ 1000) :
    Calls Tryz.prog 11 #[.agg #[.slice ax kx capx, .slice ao k cap]] w fun e w' => TwY w w' e kx Y k X := by
  have C1 := hid (fun W (hW : Below w.heap.size w W) => twins_c (w := W) (cap := capx) (hy.below hW) hkx ly)
  have C2 := hid (fun W (hW : Below w.heap.size w W) => twins_c (w := W) (cap := cap) (hx.below hW) hk lx)
  unfold TwsAns at C1 C2
  clear hx hy
  have hb := below_alloc (below_alloc (Below.refl w.heap.size w) (.cells #[.slice ax kx capx, .slice ao k cap] 31)) (.cells #[.slice none 0 0, .slice none 0 0] 31)
  have BY : Hid (Bk ((w.alloc (.cells #[.slice ax kx capx, .slice ao k cap] 31)).alloc (.cells #[.slice none 0 0, .slice none 0 0] 31)) w.heap.size [.slice ax kx capx, .slice ao k cap] 31) := (bk_new w [.slice ax kx capx, .slice ao k cap] 31).below (below_alloc (Below.refl _ _) _)
  have BR : Hid (Bk ((w.alloc (.cells #[.slice ax kx capx, .slice ao k cap] 31)).alloc (.cells #[.slice none 0 0, .slice none 0 0] 31)) (w.heap.size + 1) [.slice none 0 0, .slice none 0 0] 31) := by
    have := bk_new (w.alloc (.cells #[.slice ax kx capx, .slice ao k cap] 31)) [.slice none 0 0, .slice none 0 0] 31
    rw [size_alloc1] at this; exact this
  have HB := hid hb
  clear hb
  go_enter Tryz.func11, Tryz.ntmps11
  go_upto_region 1 with fail
  generalize ((w.alloc (.cells #[.slice ax kx capx, .slice ao k cap] 31)).alloc (.cells #[.slice none 0 0, .slice none 0 0] 31)) = w0 at *
  have t0 := BY.out.cell (j := 0) rfl
  have t1 := BY.out.cell (j := 1) rfl
  have y0 := kI0 (BR.out.cell (j := 0) rfl)
  have y1 := kI0 (BR.out.cell (j := 1) rfl)
  have z0 := BR.out.frozen 0
  have z1 := BR.out.frozen 1
  have C3 := hid (fun W (hW : Below w0.heap.size w0 W) => C1.out W (HB.out.trans (hW.mono HB.out.size)))
  have C4 := hid (fun W (hW : Below w0.heap.size w0 W) => C2.out W (HB.out.trans (hW.mono HB.out.size)))
  clear C1 C2
  go_region_held3 (fun w' => w'.cell? ⟨w.heap.size, 0, none⟩ = some (.slice ax kx capx) ∧ w'.cell? ⟨w.heap.size, 1, none⟩ = some (.slice ao k cap) ∧ (w'.cell? ⟨w.heap.size + 1, 0, none⟩).isSome = true ∧ (w'.cell? ⟨w.heap.size + 1, 1, none⟩).isSome = true ∧ w'.frozen? ⟨w.heap.size + 1, 0, none⟩ = false ∧ w'.frozen? ⟨w.heap.size + 1, 1, none⟩ = false)
    (refine ⟨?_, ?_, ?_, ?_, ?_, ?_⟩ <;> repeat (with_reducible first | assumption | refine kCd ?_ | refine kId ?_ | refine kFd ?_ | refine kCs (by simp only [ne_eq]; omega) ?_ | refine kIs ?_ | refine kFs ?_ | refine kCb (by assumption) ?_ | refine kIb (by assumption) ?_ | refine kFbs (by assumption) ?_ ?_))
    (first
      | (have h9 := H1.out; clear h9; go_at_call 14; with_reducible refine (C4.out _ (by repeat (with_reducible first | assumption | exact Below.refl _ _ | refine Below.drew ?_ | refine kBa ?_ | refine kBb (by assumption) ?_))).mono ?_; rintro e w2 ⟨bo, co, X', rfl, hb2, hco, H2⟩; have B2 := hid (BR.out.below (show Below w0.heap.size w0 w2 from (by repeat (with_reducible first | assumption | exact Below.refl _ _ | refine Below.drew ?_ | refine kBa ?_ | refine kBb (by assumption) ?_)))); have p20 := B2.out.cell (j := 0) rfl; have p21 := B2.out.cell (j := 1) rfl; have m20 := kI0 p20; have m21 := kI0 p21; have q20 := B2.out.frozen 0; have q21 := B2.out.frozen 1)
      | (go_at_call 14; with_reducible refine (C3.out _ (by repeat (with_reducible first | assumption | exact Below.refl _ _ | refine Below.drew ?_ | refine kBa ?_ | refine kBb (by assumption) ?_))).mono ?_; rintro e w1 ⟨bx, cx, Y', rfl, hb1, hcx, H1⟩; have B1 := hid (BR.out.below (show Below w0.heap.size w0 w1 from (by repeat (with_reducible first | assumption | exact Below.refl _ _ | refine Below.drew ?_ | refine kBa ?_ | refine kBb (by assumption) ?_)))); have p10 := B1.out.cell (j := 0) rfl; have p11 := B1.out.cell (j := 1) rfl; have m10 := kI0 p10; have m11 := kI0 p11; have q10 := B1.out.frozen 0; have q11 := B1.out.frozen 1))
  all_goals
    have hb02 : Below w0.heap.size w0 w2 := (by repeat (with_reducible first | assumption | exact Below.refl _ _ | refine Below.drew ?_ | refine kBa ?_ | refine kBb (by assumption) ?_))
    have hb12 : Below w1.heap.size w1 w2 := (by repeat (with_reducible first | assumption | exact Below.refl _ _ | refine Below.drew ?_ | refine kBa ?_ | refine kBb (by assumption) ?_))
    replace HB := hid (HB.out.trans (hb02.mono HB.out.size)); replace BR := hid (BR.out.below hb02)
    obtain ⟨hx1, hx2, hx3⟩ := st_new [.slice bx kx cx, .slice bo k co] BR.out (nou_list (fun u hu q => by simp at hu; rcases hu with rfl | rfl <;> simp)) HB.out (by omega)
    have R1 := H1.out.1.below hb12; have R2 := H2.out.1
    have l0 := BR.out.cell (j := 0) rfl
    have l1 := BR.out.cell (j := 1) rfl
    have HX : Hid (TwY w (stl (w.heap.size + 1) 0 [.slice bx kx cx, .slice bo k co] w2) (.returned (.agg #[.slice bx kx cx, .slice bo k co])) kx Y k X) := ⟨bx, cx, Y', bo, co, X', rfl, hx1, ⟨hcx, hco⟩, ⟨R1.st hx2 hx3 (bk_nob BR.out (fun v hv => by simp at hv; cases hv; exact ⟨_, _, _, rfl⟩)), H1.out.2⟩, R2.st hx2 hx3 (bk_nob BR.out (fun v hv => by simp at hv; cases hv; exact ⟨_, _, _, rfl⟩)), H2.out.2⟩
    clear hx1 hx2 hx3 R1 R2 hb02 hb12
    go_wp2
    exact bodyPost_ret (v := .agg #[.slice bx kx cx, .slice bo k co]) (by simp [results, Tryz.results11, go_sem, l0, l1]) rfl HX.out
end Go.Proofs.YtlemkhgicdnlnaaGreat
namespace Go.Proofs.YtlemkhgicdnlnaaGreat
open Go.RowKit

theorem Rf.cut {K L : Nat} {w : World} {ao : Option Addr} {p : List Rat} (h : Rf K w ao p) (hp : ∀ q, q ∈ p → Lo L q) : Rf L w ao p := fun j q hj => by
  obtain ⟨b, o, t, e, h1, h2⟩ := h j q hj
  exact ⟨b, o, t, e, h1, h2.cut (hp q (List.mem_of_getElem? hj))⟩
/-- A list's twin, the list's numbers being of at most 6 limbs. -/
def Tx (w : World) (ao : Option Addr) (k : Nat) (X X' : Nat → Nm) : Prop := Rl w ao k X' ∧ ∀ j, j < k → Sn (X j) (X' j)
theorem Tx.below {w w' ao k X X'} (h : Tx w ao k X X') (hb : Below w.heap.size w w') : Tx w' ao k X X' := ⟨h.1.below hb, h.2⟩
/-- A list that is short, its numbers too. -/
def Sh (k : Nat) (X : Nat → Nm) : Prop := k ≤ 300 ∧ ∀ j, j < k → (X j).n ≤ 6 ∧ (X j).m ≤ 6
theorem Tx.val {w ao k X X'} (h : Tx w ao k X X') (hs : Sh k X) (ha : afB k X = true) : Rf 6 w ao (psOf k X) := by
  rw [← psOf_sn h.2]
  refine h.1.rfC ?_ (fun j hj => by rw [(h.2 j hj).2.1, (h.2 j hj).2.2.2.1]; exact hs.2 j hj)
  exact (afr_sn (fun j _ b => h.2 j (by omega))).trans ha
end Go.Proofs.YtlemkhgicdnlnaaGreat
namespace Go.Proofs.YtlemkhgicdnlnaaGreat
open Go.RowKit

end Go.Proofs.YtlemkhgicdnlnaaGreat
namespace Go.Proofs.YtlemkhgicdnlnaaGreat
open Go.RowKit

end Go.Proofs.YtlemkhgicdnlnaaGreat
namespace Go.Proofs.YtlemkhgicdnlnaaGreat
open Go.RowKit

/-- A list that is short, its numbers too. -/
def ShK (K k : Nat) (X : Nat → Nm) : Prop := k ≤ 300 ∧ ∀ j, j < k → (X j).n ≤ K ∧ (X j).m ≤ K
theorem lgL_shK {K k : Nat} {X : Nat → Nm} (h : lgL K k X = true) : ShK K k X := by
  simp only [lgL, Bool.and_eq_true, decide_eq_true_eq] at h
  exact ⟨h.1, fun j hj => nlg_all h.2 j (by omega) (by omega)⟩
theorem Tx.valK {K w ao k X X'} (h : Tx w ao k X X') (hs : ShK K k X) (ha : afB k X = true) : Rf K w ao (psOf k X) := by
  rw [← psOf_sn h.2]
  refine h.1.rfC ?_ (fun j hj => by rw [(h.2 j hj).2.1, (h.2 j hj).2.2.2.1]; exact hs.2 j hj)
  exact (afr_sn (fun j _ b => h.2 j (by omega))).trans ha
theorem twinRayK_c {K : Nat} {w : World} {ax : Option Addr} {kx capx : Nat} {Y : Nat → Nm} {ao : Option Addr} {k cap : Nat} {X : Nat → Nm} (hy : Rl w ax kx Y) (sy : ShK K kx Y) (hx : Rl w ao k X) (sx : ShK K k X) (hK : K ≤ 100) : Calls Tryz.prog 11 #[.agg #[.slice ax kx capx, .slice ao k cap]] w fun e w' => ∃ (b : Option Addr) (c1 : Nat) (Y' : Nat → Nm) (b2 : Option Addr) (c2 : Nat) (X' : Nat → Nm), e = .returned (.agg #[.slice b kx c1, .slice b2 k c2]) ∧ Below w.heap.size w w' ∧ Hid (Tx w' b kx Y Y' ∧ Tx w' b2 k X X') :=
  (twin13_c hy hx (by have := sy.1; omega) (by have := sx.1; omega) (fun j hj => by have := sy.2 j hj; omega) (fun j hj => by have := sx.2 j hj; omega)).mono fun e w' ⟨bx, cx, Y', bo, co, X', h1, h2, _, h4⟩ => ⟨bx, cx, Y', bo, co, X', h1, h2, hid ⟨h4.out.1, h4.out.2⟩⟩
theorem alE_of (t : Nm) (kx : Nat) (Y : Nat → Nm) (k : Nat) (X : Nat → Nm) : alE t kx Y k X = if (afB kx Y && (afB k X && nfB t)) = true then (if k = kx then 0 else 7) else 3 := by
  have h1 : afB 1 (fun _ => t) = nfB t := by simp [afB, afr]
  unfold alE pnE
  rw [h1]
  have h2 : ((k : Int) = (kx : Int)) = (k = kx) := propext ⟨fun h => by omega, fun h => by omega⟩
  simp only [h2]
  cases afB kx Y <;> cases afB k X <;> cases nfB t <;> by_cases h : k = kx <;> simp [lsf, lstep, tri, h]
/-- A ray's twin along a number's twin, whatever they are. -/
theorem alongTwK_c {w : World} {ax : Option Addr} {kx capx : Nat} {Y Y' : Nat → Nm} {ao : Option Addr} {k cap : Nat} {X X' : Nat → Nm} {t t' : Nm} (hy : Tx w ax kx Y Y') (hsy : ShK 8 kx Y) (hx : Tx w ao k X X') (hs : ShK 8 k X) (ht : Rw w t'.x t'.n t'.c t'.f t'.y t'.m t'.d t'.g) (hn : Sn t t') (hl : t.n ≤ 8 ∧ t.m ≤ 8) :
    Calls Tryz.prog 17 #[.agg #[.slice ax kx capx, .slice ao k cap], .agg #[.bool t'.s, .slice t'.x t'.n t'.c, .slice t'.y t'.m t'.d]] w fun e w' => AlAns 8 w w' e (alE t kx Y k X) kx (psOf kx Y) (psOf k X) (nq t) := by
  have e1 : afB kx Y' = afB kx Y := afr_sn (fun j _ b => hy.2 j (by omega))
  have e2 : afB k X' = afB k X := afr_sn (fun j _ b => hx.2 j (by omega))
  have hl' : t'.n ≤ 8 ∧ t'.m ≤ 8 := by rw [hn.2.1, hn.2.2.2.1]; exact hl
  have hts : NmS w t' := ⟨ht, by omega, by omega⟩
  refine rAlong_v (L := 8) hy.1 hx.1 hts (by have := hsy.1; omega) (by have := hs.1; omega) ?_ (fun h0 => ?_) (by decide)
  · show alE t' kx Y' k X' = alE t kx Y k X
    unfold alE pnE
    rw [e1, e2, show afB 1 (fun _ => t') = afB 1 (fun _ => t) from afr_sn (fun j _ _ => hn)]
  · have h9 : nfB t = true ∧ afB kx Y = true ∧ afB k X = true ∧ k = kx := by
      rw [alE_of] at h0
      split at h0
      · rename_i h
        simp only [Bool.and_eq_true] at h
        split at h0
        · rename_i h2; exact ⟨h.2.2, h.1, h.2.1, h2⟩
        · exact absurd h0 (by decide)
      · exact absurd h0 (by decide)
    refine ⟨hy.valK hsy h9.2.1, psOf_len _ _, hx.valK hs h9.2.2.1, psOf_len _ _, h9.2.2.2, ?_⟩
    have := NmS.val (K := 8) hts (by rw [hn.nfB]; exact h9.1) hl'
    rw [hn.nq] at this
    exact this
end Go.Proofs.YtlemkhgicdnlnaaGreat
namespace Go.Proofs.YtlemkhgicdnlnaaGreat
open Go.RowKit

/-- How long a number along a ray may be, as the reference reckons it. -/
def KD (L : Nat) : Nat := 40 * L + 18
/-- What DocAlong answers. -/
def DlAns (L : Nat) (w w' : World) (e : Ending) (er : Int) (kx : Nat) (xs ds : List Rat) (t : Rat) : Prop := Below w.heap.size w w' ∧
  ((er ≠ 0 ∧ e = .returned (.tuple #[.slice none 0 0, .int .i64 er])) ∨ (er = 0 ∧ ∃ a c, e = .returned (.tuple #[.slice a kx c, .int .i64 0]) ∧ (kx ≤ c ∧ c ≤ 9223372036854775807) ∧ Rf (KD L) w' a (alng xs ds t)))
/-- A value that is a number. -/
def NV (K : Nat) (q : Rat) (v : Value) (w : World) : Prop := ∃ t : Nm, v = t.val ∧ NmV K w t q
theorem NV.below {K q v w w'} (h : NV K q v w) (hb : Below w.heap.size w w') : NV K q v w' := by obtain ⟨t, h1, h2⟩ := h; exact ⟨t, h1, Rn.below h2 hb⟩
set_option maxRecDepth 100000 in
set_option maxHeartbeats 8000000 in
theorem docAlong_c {w : World} {L : Nat} {ax : Option Addr} {kx capx : Nat} {Y : Nat → Nm} {ao : Option Addr} {k cap : Nat} {X : Nat → Nm} {ts : Bool} {tx : Option Addr} {tn tc : Nat} {tf : Nat → Int} {ty : Option Addr} {tm td : Nat} {tg : Nat → Int} {xs ds : List Rat} {tq : Rat} {er : Int} (hy : Rl w ax kx Y) (hx : Rl w ao k X) (ht : NmS w ⟨ts, tx, tn, tc, tf, ty, tm, td, tg⟩) (hkx : kx ≤ 10000) (hk : k ≤ 10000) (ly : ∀ j, j < kx → (Y j).n ≤ 1000 ∧ (Y j).m ≤ 1000) (lx : ∀ j, j < k → (X j).n ≤ 1000 ∧ (X j).m ≤ 1000) (lt : tn ≤ 1000 ∧ tm ≤ 1000) (he : alE ⟨ts, tx, tn, tc, tf, ty, tm, td, tg⟩ kx Y k X = er) (hv : er = 0 → Rf L w ax xs ∧ xs.length = kx ∧ Rf L w ao ds ∧ ds.length = k ∧ k = kx ∧ Rn L w ts tx tn tc tf ty tm td tg tq) (hL : L ≤ 60) :
    Calls Tryz.prog 19 #[.agg #[.slice ax kx capx, .slice ao k cap], .agg #[.bool ts, .slice tx tn tc, .slice ty tm td]] w fun e w' => DlAns L w w' e er kx xs ds tq := by
  have C1 := hid (fun W (hW : Below w.heap.size w W) => forms_c (w := W) (cap := capx) (hy.below hW) hkx ly)
  have C2 := hid (fun W (hW : Below w.heap.size w W) => forms_c (w := W) (cap := cap) (hx.below hW) hk lx)
  have C3 := hid (fun W (hW : Below w.heap.size w W) => qForm_c (w := W) (s := ts) (ht.1.below hW) lt.1 lt.2)
  rw [alE_of] at he
  replace he : (if (afB kx Y && (afB k X && rfB ts tf tn tg tm)) = true then (if k = kx then (0 : Int) else 7) else 3) = er := he
  obtain ⟨b1, hb1⟩ : ∃ t, afB kx Y = t := ⟨_, rfl⟩
  obtain ⟨b2, hb2⟩ : ∃ t, afB k X = t := ⟨_, rfl⟩
  obtain ⟨b3, hb3⟩ : ∃ t, rfB ts tf tn tg tm = t := ⟨_, rfl⟩
  rw [hb1] at C1 he
  rw [hb2] at C2 he
  rw [show rfB ts tf tn tg tm = b3 from hb3] at C3 he
  clear hb1 hb2 hb3
  have HE := hid he; have HV := hid hv
  clear he hv hx hy ht lx ly lt
  have hb := below_alloc (below_alloc (Below.refl w.heap.size w) (.cells #[.slice ax kx capx, .slice ao k cap] 31)) (.cells #[.bool ts, .slice tx tn tc, .slice ty tm td] 24)
  have BY : Hid (Bk ((w.alloc (.cells #[.slice ax kx capx, .slice ao k cap] 31)).alloc (.cells #[.bool ts, .slice tx tn tc, .slice ty tm td] 24)) w.heap.size [.slice ax kx capx, .slice ao k cap] 31) := (bk_new w [.slice ax kx capx, .slice ao k cap] 31).below (below_alloc (Below.refl _ _) _)
  have BT : Hid (Bk ((w.alloc (.cells #[.slice ax kx capx, .slice ao k cap] 31)).alloc (.cells #[.bool ts, .slice tx tn tc, .slice ty tm td] 24)) (w.heap.size + 1) [.bool ts, .slice tx tn tc, .slice ty tm td] 24) := by
    have := bk_new (w.alloc (.cells #[.slice ax kx capx, .slice ao k cap] 31)) [.bool ts, .slice tx tn tc, .slice ty tm td] 24
    rw [size_alloc1] at this; exact this
  have HB := hid hb
  clear hb
  go_enter Tryz.func19, Tryz.ntmps19
  have t0 := BY.out.cell (j := 0) rfl
  go_wp2_with fail
  clear t0
  generalize ((w.alloc (.cells #[.slice ax kx capx, .slice ao k cap] 31)).alloc (.cells #[.bool ts, .slice tx tn tc, .slice ty tm td] 24)) = w0 at *
  refine (C1.out _ HB.out).mono ?_
  rintro e w1 ⟨rfl, hb⟩
  replace HB := hid (HB.out.trans (hb.mono HB.out.size)); replace BY := hid (BY.out.below hb); replace BT := hid (BT.out.below hb)
  clear hb
  cases b1
  · go_wp2
    go_ret2
    exact ⟨HB.out, .inl ⟨by rw [← HE.out]; simp, by rw [← HE.out]; simp⟩⟩
  have t1 := BY.out.cell (j := 1) rfl
  go_wp2_with fail
  clear t1
  refine (C2.out _ HB.out).mono ?_
  rintro e w2 ⟨rfl, hb⟩
  replace HB := hid (HB.out.trans (hb.mono HB.out.size)); replace BY := hid (BY.out.below hb); replace BT := hid (BT.out.below hb)
  clear hb
  cases b2
  · go_wp2
    go_ret2
    exact ⟨HB.out, .inl ⟨by rw [← HE.out]; simp, by rw [← HE.out]; simp⟩⟩
  have r0 := BT.out.cell (j := 0) rfl
  have r1 := BT.out.cell (j := 1) rfl
  have r2 := BT.out.cell (j := 2) rfl
  go_wp2_with fail
  clear r0 r1 r2
  refine (C3.out _ HB.out).mono ?_
  rintro e w3 ⟨rfl, hb⟩
  replace HB := hid (HB.out.trans (hb.mono HB.out.size)); replace BY := hid (BY.out.below hb); replace BT := hid (BT.out.below hb)
  clear hb
  cases b3
  · go_wp2
    go_ret2
    exact ⟨HB.out, .inl ⟨by rw [← HE.out]; simp, by rw [← HE.out]; simp⟩⟩
  have y0 := BY.out.cell (j := 0) rfl
  have y1 := BY.out.cell (j := 1) rfl
  by_cases hkk : k = kx
  case neg =>
    have hne : ¬ (((kx : Nat) : Int) = ((k : Nat) : Int)) := by omega
    have h7 : er = 7 := by rw [← HE.out]; simp [hkk]
    clear HE
    go_wp2
    go_ret2
    exact ⟨HB.out, .inl ⟨by omega, by rw [h7]; rfl⟩⟩
  subst hkk
  have h0 : er = 0 := by rw [← HE.out]; simp
  obtain ⟨v1, v2, v3, v4, _, v5⟩ := HV.out h0
  subst h0
  have X1 := hid (v1.below HB.out); have X2 := hid (v3.below HB.out); have X3 := hid (v5.below HB.out); have HB0 := hid HB.out; have BY0 := hid BY.out; have BT0 := hid BT.out
  clear v1 v3 v5 HV HE C1 C2 C3
  go_wp2_with fail
  clear y0 y1
  have hsw := HB0.out.size
  have hlw := BT0.out.lt
  go_loopw [6, 33] (fun ov t wr => ∃ (i : Nat), i ≤ k ∧ t = .int .i64 i ∧ Hid (Below w3.heap.size w3 wr) ∧ Hid (Gr (KD L) w3.heap.size wr ov ((alng xs ds tq).take i))) (fun _ t _ => k - (intOf t).toNat)
  case atStart => exact ⟨0, by omega, rfl, Below.refl _ _, gr_nil _ _ _⟩
  case round =>
    obtain ⟨i, hi, rfl, HBr, HG⟩ := hrel
    by_cases hlt : i < k
    · obtain ⟨x, hx⟩ : ∃ t, xs[i]? = some t := ⟨_, List.getElem?_eq_getElem (by omega)⟩
      obtain ⟨dd, hd⟩ : ∃ t, ds[i]? = some t := ⟨_, List.getElem?_eq_getElem (by omega)⟩
      obtain ⟨b1, o1, ⟨su, xu, nu, cu, fu, yu, mu, du, gu⟩, hax, ⟨p0, p1, p2⟩, hr1⟩ := X1.out i x hx
      obtain ⟨b2, o2, ⟨sv, xv, nv, cv, fv, yv, mv, dv, gv⟩, hao, ⟨q0, q1, q2⟩, hr2⟩ := X2.out i dd hd
      subst hax
      subst hao
      replace p0 : w3.cell? ⟨b1, o1 + i * 3, none⟩ = some (.bool su) := p0
      replace p1 : w3.cell? ⟨b1, o1 + i * 3 + 1, none⟩ = some (.slice xu nu cu) := p1
      replace p2 : w3.cell? ⟨b1, o1 + i * 3 + 2, none⟩ = some (.slice yu mu du) := p2
      replace q0 : w3.cell? ⟨b2, o2 + i * 3, none⟩ = some (.bool sv) := q0
      replace q1 : w3.cell? ⟨b2, o2 + i * 3 + 1, none⟩ = some (.slice xv nv cv) := q1
      replace q2 : w3.cell? ⟨b2, o2 + i * 3 + 2, none⟩ = some (.slice yv mv dv) := q2
      have HP := hid (And.intro p0 (And.intro p1 p2)); have HQ := hid (And.intro q0 (And.intro q1 q2)); have R1 := hid hr1; have R2 := hid hr2; have HXi := hid hx; have HDi := hid hd
      clear hr1 hr2 hx hd p0 p1 p2 q0 q1 q2
      have BYr := BY0.out.below HBr.out
      have BTr := BT0.out.below HBr.out
      have y0 := BYr.cell (j := 0) rfl
      have y1 := BYr.cell (j := 1) rfl
      have r0 := BTr.cell (j := 0) rfl
      have r1 := BTr.cell (j := 1) rfl
      have r2 := BTr.cell (j := 2) rfl
      clear BYr BTr
      obtain ⟨p0, p1, p2⟩ := HP.out
      obtain ⟨q0, q1, q2⟩ := HQ.out
      replace p0 := kCb HBr.out p0
      replace p1 := kCb HBr.out p1
      replace p2 := kCb HBr.out p2
      replace q0 := kCb HBr.out q0
      replace q1 := kCb HBr.out q1
      replace q2 := kCb HBr.out q2
      have i1 : ((i : Nat) : Int) < ((k : Nat) : Int) := by omega
      go_upto_region 9 with fail
      refine wp_region_held_drew (S := (fun w' => w'.cell? ⟨w.heap.size, 0, none⟩ = some (.slice (some ⟨b1, o1, none⟩) k capx) ∧ w'.cell? ⟨w.heap.size, 1, none⟩ = some (.slice (some ⟨b2, o2, none⟩) k cap) ∧ w'.cell? ⟨w.heap.size + 1, 0, none⟩ = some (.bool ts) ∧ w'.cell? ⟨w.heap.size + 1, 1, none⟩ = some (.slice tx tn tc) ∧ w'.cell? ⟨w.heap.size + 1, 2, none⟩ = some (.slice ty tm td) ∧ w'.cell? ⟨b1, o1 + i * 3, none⟩ = some (.bool su) ∧ w'.cell? ⟨b1, o1 + i * 3 + 1, none⟩ = some (.slice xu nu cu) ∧ w'.cell? ⟨b1, o1 + i * 3 + 2, none⟩ = some (.slice yu mu du) ∧ w'.cell? ⟨b2, o2 + i * 3, none⟩ = some (.bool sv) ∧ w'.cell? ⟨b2, o2 + i * 3 + 1, none⟩ = some (.slice xv nv cv) ∧ w'.cell? ⟨b2, o2 + i * 3 + 2, none⟩ = some (.slice yv mv dv))) (by kernel_rfl) ?_ (fun hHeld => ?_)
      · (refine ⟨?_, ?_, ?_, ?_, ?_, ?_, ?_, ?_, ?_, ?_, ?_⟩ <;> repeat (with_reducible first | assumption | refine kCd ?_))
      have hbd := Below.drew (Below.refl wr.heap.size wr)
      replace HBr := hid (HBr.out.trans (hbd.mono HBr.out.size)); replace HG := hid (HG.out.below hbd)
      generalize wr.drew = wd at *
      clear hbd y0 y1 r0 r1 r2 p0 p1 p2 q0 q1 q2
      refine wpAnyH_take (i := 0) (v := ?_) rfl (by kernel_rfl) (by kernel_rfl) (by kernel_rfl) (fun _ _ _ h => h) (Or.inl ⟨by rfl, ?_⟩) (by assumption) ?_
      rotate_left
      (focus (intro w0 hSw; (try dsimp only at hSw); go_simp <;> with_reducible rfl))
      simp only [List.getElem_toArray, List.getElem_cons_zero, Act.put, List.setIfInBounds_toArray, List.set_cons_zero, List.set_cons_succ]
      refine wpAnyH_take (i := 1) (v := ?_) rfl (by kernel_rfl) (by kernel_rfl) (by kernel_rfl) (fun _ _ _ h => h) (Or.inl ⟨by rfl, ?_⟩) (by assumption) ?_
      rotate_left
      (focus (intro w0 hSw; (try dsimp only at hSw); go_simp <;> with_reducible rfl))
      simp only [List.getElem_toArray, List.getElem_cons_succ, List.getElem_cons_zero, Act.put, List.setIfInBounds_toArray, List.set_cons_zero, List.set_cons_succ]
      refine wpAnyH_take (i := 2) (v := ?_) rfl (by kernel_rfl) (by kernel_rfl) (by kernel_rfl) (fun _ _ _ h => h) (Or.inl ⟨by rfl, ?_⟩) (by assumption) ?_
      rotate_left
      (focus (intro w0 hSw; (try dsimp only at hSw); go_simp <;> with_reducible rfl))
      simp only [List.getElem_toArray, List.getElem_cons_succ, List.getElem_cons_zero, Act.put, List.setIfInBounds_toArray, List.set_cons_zero, List.set_cons_succ]
      refine wpAnyH_take (i := 3) (v := ?_) rfl (by kernel_rfl) (by kernel_rfl) (by kernel_rfl) (fun _ _ _ h => h) (Or.inl ⟨by rfl, ?_⟩) (by assumption) ?_
      rotate_left
      (focus (intro w0 hSw; (try dsimp only at hSw); go_simp <;> with_reducible rfl))
      simp only [List.getElem_toArray, List.getElem_cons_succ, List.getElem_cons_zero, Act.put, List.setIfInBounds_toArray, List.set_cons_zero, List.set_cons_succ]
      refine wpAnyH_take (i := 4) (v := ?_) rfl (by kernel_rfl) (by kernel_rfl) (by kernel_rfl) (fun _ _ _ h => h) (Or.inl ⟨by rfl, ?_⟩) (by assumption) ?_
      rotate_left
      (focus (intro w0 hSw; (try dsimp only at hSw); go_simp <;> with_reducible rfl))
      simp only [List.getElem_toArray, List.getElem_cons_succ, List.getElem_cons_zero, Act.put, List.setIfInBounds_toArray, List.set_cons_zero, List.set_cons_succ]
      refine wpAnyH_take (i := 5) (v := ?_) rfl (by kernel_rfl) (by kernel_rfl) (by kernel_rfl) (fun _ _ _ h => h) (Or.inl ⟨by rfl, ?_⟩) (by assumption) ?_
      rotate_left
      (focus (intro w0 hSw; (try dsimp only at hSw); go_simp <;> with_reducible rfl))
      simp only [List.getElem_toArray, List.getElem_cons_succ, List.getElem_cons_zero, Act.put, List.setIfInBounds_toArray, List.set_cons_zero, List.set_cons_succ]
      refine wpAnyH_take (i := 7) (v := ?_) rfl (by kernel_rfl) (by kernel_rfl) (by kernel_rfl) (fun _ _ _ h => h) (Or.inl ⟨by rfl, ?_⟩) (by assumption) ?_
      rotate_left
      (focus (intro w0 hSw; (try dsimp only at hSw); go_simp <;> with_reducible rfl))
      simp only [List.getElem_toArray, List.getElem_cons_succ, List.getElem_cons_zero, Act.put, List.setIfInBounds_toArray, List.set_cons_zero, List.set_cons_succ]
      refine wpAnyH_take (i := 9) (v := ?_) rfl (by kernel_rfl) (by kernel_rfl) (by kernel_rfl) (fun _ _ _ h => h) (Or.inl ⟨by rfl, ?_⟩) (by assumption) ?_
      rotate_left
      (focus (intro w0 hSw; (try dsimp only at hSw); go_simp <;> with_reducible rfl))
      simp only [List.getElem_toArray, List.getElem_cons_succ, List.getElem_cons_zero, Act.put, List.setIfInBounds_toArray, List.set_cons_zero, List.set_cons_succ]
      refine wpAnyH_take (i := 10) (v := ?_) rfl (by kernel_rfl) (by kernel_rfl) (by kernel_rfl) (fun _ _ _ h => h) (Or.inl ⟨by rfl, ?_⟩) (by assumption) ?_
      rotate_left
      (focus (intro w0 hSw; (try dsimp only at hSw); go_simp <;> with_reducible rfl))
      simp only [List.getElem_toArray, List.getElem_cons_succ, List.getElem_cons_zero, Act.put, List.setIfInBounds_toArray, List.set_cons_zero, List.set_cons_succ]
      refine wpAnyH_take (i := 11) (v := ?_) rfl (by kernel_rfl) (by kernel_rfl) (by kernel_rfl) (fun _ _ _ h => h) (Or.inl ⟨by rfl, ?_⟩) (by assumption) ?_
      rotate_left
      (focus (intro w0 hSw; (try dsimp only at hSw); go_simp <;> with_reducible rfl))
      simp only [List.getElem_toArray, List.getElem_cons_succ, List.getElem_cons_zero, Act.put, List.setIfInBounds_toArray, List.set_cons_zero, List.set_cons_succ]
      refine wpAnyH_take (i := 12) (v := ?_) rfl (by kernel_rfl) (by kernel_rfl) (by kernel_rfl) (fun _ _ _ h => h) (Or.inl ⟨by rfl, ?_⟩) (by assumption) ?_
      rotate_left
      (focus (intro w0 hSw; (try dsimp only at hSw); go_simp <;> with_reducible rfl))
      simp only [List.getElem_toArray, List.getElem_cons_succ, List.getElem_cons_zero, Act.put, List.setIfInBounds_toArray, List.set_cons_zero, List.set_cons_succ]
      refine wpAnyH_take (i := 13) (v := ?_) rfl (by kernel_rfl) (by kernel_rfl) (by kernel_rfl) (fun _ _ _ h => h) (Or.inl ⟨by rfl, ?_⟩) (by assumption) ?_
      rotate_left
      (focus (intro w0 hSw; (try dsimp only at hSw); go_simp <;> with_reducible rfl))
      simp only [List.getElem_toArray, List.getElem_cons_succ, List.getElem_cons_zero, Act.put, List.setIfInBounds_toArray, List.set_cons_zero, List.set_cons_succ]
      refine (show wpAnyH _ _ _ _ _ (6 + 3) _ _ _ from wpAnyH_flow (fun j v w => match j with | 6 => FN (2 * L) x v w | 8 => FN (2 * L) tq v w | 14 => FN (2 * L) dd v w | 15 => FN (8 * L + 3) (tq * dd) v w | 16 => FN (20 * L + 9) (x + tq * dd) v w | 17 => NV (KD L) (x + tq * dd) v w | _ => True) [(6, 42), (8, 44), (14, 50), (15, 51), (16, 52), (17, 53)] [6, 8, 14, 15, 16, 17] [18, 19, 20] _ _ _ 3 ?k1 ?k4 ?k2 ?k3 ?k5 ?k6 ?k8)
      case k1 => kernel_rfl
      case k4 => kernel_rfl
      case k2 => exact fun w w' h hb => ⟨kCb hb h.1, kCb hb h.2.1, kCb hb h.2.2.1, kCb hb h.2.2.2.1, kCb hb h.2.2.2.2.1, kCb hb h.2.2.2.2.2.1, kCb hb h.2.2.2.2.2.2.1, kCb hb h.2.2.2.2.2.2.2.1, kCb hb h.2.2.2.2.2.2.2.2.1, kCb hb h.2.2.2.2.2.2.2.2.2.1, kCb hb h.2.2.2.2.2.2.2.2.2.2⟩
      case k3 =>
        intro j v w w' h hb
        split at h <;> first | exact FN.below h hb | exact NV.below h hb | exact h | trivial
      case k8 => exact hHeld
      case k5 =>
        intro i hi
        simp only [List.mem_cons, List.not_mem_nil, or_false] at hi
        rcases hi with rfl | rfl | rfl | rfl | rfl | rfl
        · refine ⟨_, rfl, fun u w5 hS hb5 hd K hK => ?_⟩
          simp only [fill, List.foldl_cons, List.foldl_nil, Act.put, List.setIfInBounds_toArray, List.set_cons_zero, List.set_cons_succ] at hK ⊢
          go_simp
          go_at_call 23
          refine (qFrom_c (Rn.below (Rn.below R1.out HBr.out) hb5) (Nat.le_trans hL (by decide))).mono ?_
          rintro e w6 ⟨sq, zp, nq9, cp, dp, zq, mq9, cq, gq, rfl, hb6, hq1, hq2, hq⟩
          (try go_wp2_with fail)
          exact hK.out _ _ hb6 ⟨⟨sq, zp, nq9, cp, dp, zq, mq9, cq, gq⟩, rfl, hq1, hq2, hq⟩
        · refine ⟨_, rfl, fun u w5 hS hb5 hd K hK => ?_⟩
          simp only [fill, List.foldl_cons, List.foldl_nil, Act.put, List.setIfInBounds_toArray, List.set_cons_zero, List.set_cons_succ] at hK ⊢
          go_simp
          go_at_call 23
          refine (qFrom_c (Rn.below (Rn.below X3.out HBr.out) hb5) (Nat.le_trans hL (by decide))).mono ?_
          rintro e w6 ⟨sq, zp, nq9, cp, dp, zq, mq9, cq, gq, rfl, hb6, hq1, hq2, hq⟩
          (try go_wp2_with fail)
          exact hK.out _ _ hb6 ⟨⟨sq, zp, nq9, cp, dp, zq, mq9, cq, gq⟩, rfl, hq1, hq2, hq⟩
        · refine ⟨_, rfl, fun u w5 hS hb5 hd K hK => ?_⟩
          simp only [fill, List.foldl_cons, List.foldl_nil, Act.put, List.setIfInBounds_toArray, List.set_cons_zero, List.set_cons_succ] at hK ⊢
          go_simp
          go_at_call 23
          refine (qFrom_c (Rn.below (Rn.below R2.out HBr.out) hb5) (Nat.le_trans hL (by decide))).mono ?_
          rintro e w6 ⟨sq, zp, nq9, cp, dp, zq, mq9, cq, gq, rfl, hb6, hq1, hq2, hq⟩
          (try go_wp2_with fail)
          exact hK.out _ _ hb6 ⟨⟨sq, zp, nq9, cp, dp, zq, mq9, cq, gq⟩, rfl, hq1, hq2, hq⟩
        · refine ⟨_, rfl, fun u w5 hS hb5 hd K hK => ?_⟩
          have h8 : FN (2 * L) tq (u 8) w5 := hd 8 (by kernel_rfl) (by kernel_rfl)
          obtain ⟨⟨sa8, xa8, na8, ca8, fa8, ya8, ma8, da8, ga8⟩, e8, hm8, hn8, hv8⟩ := h8
          replace e8 : u 8 = .agg #[.bool sa8, .slice xa8 na8 ca8, .slice ya8 ma8 da8] := e8
          replace hm8 : na8 ≤ _ := hm8
          replace hn8 : ma8 ≤ _ := hn8
          replace hv8 : Qn w5 sa8 xa8 na8 fa8 ya8 ma8 ga8 _ := hv8
          have h14 : FN (2 * L) dd (u 14) w5 := hd 14 (by kernel_rfl) (by kernel_rfl)
          obtain ⟨⟨sa14, xa14, na14, ca14, fa14, ya14, ma14, da14, ga14⟩, e14, hm14, hn14, hv14⟩ := h14
          replace e14 : u 14 = .agg #[.bool sa14, .slice xa14 na14 ca14, .slice ya14 ma14 da14] := e14
          replace hm14 : na14 ≤ _ := hm14
          replace hn14 : ma14 ≤ _ := hn14
          replace hv14 : Qn w5 sa14 xa14 na14 fa14 ya14 ma14 ga14 _ := hv14
          simp only [fill, List.foldl_cons, List.foldl_nil, Act.put, List.setIfInBounds_toArray, List.set_cons_zero, List.set_cons_succ] at hK ⊢
          simp only [e8, e14] at hK ⊢
          go_simp
          go_at_call 49
          refine (qMul_c hv8 hv14 (by omega) (by omega) (by omega) (by omega)).mono ?_
          rintro e w6 ⟨sq, zp, nq9, cp, dp, zq, mq9, cq, gq, rfl, hb6, hq1, hq2, hq⟩
          (try go_wp2_with fail)
          exact hK.out _ _ hb6 ⟨⟨sq, zp, nq9, cp, dp, zq, mq9, cq, gq⟩, rfl, Nat.le_trans hq1 (by omega), Nat.le_trans hq2 (by omega), hq⟩
        · refine ⟨_, rfl, fun u w5 hS hb5 hd K hK => ?_⟩
          have h6 : FN (2 * L) x (u 6) w5 := hd 6 (by kernel_rfl) (by kernel_rfl)
          obtain ⟨⟨sa6, xa6, na6, ca6, fa6, ya6, ma6, da6, ga6⟩, e6, hm6, hn6, hv6⟩ := h6
          replace e6 : u 6 = .agg #[.bool sa6, .slice xa6 na6 ca6, .slice ya6 ma6 da6] := e6
          replace hm6 : na6 ≤ _ := hm6
          replace hn6 : ma6 ≤ _ := hn6
          replace hv6 : Qn w5 sa6 xa6 na6 fa6 ya6 ma6 ga6 _ := hv6
          have h15 : FN (8 * L + 3) (tq * dd) (u 15) w5 := hd 15 (by kernel_rfl) (by kernel_rfl)
          obtain ⟨⟨sa15, xa15, na15, ca15, fa15, ya15, ma15, da15, ga15⟩, e15, hm15, hn15, hv15⟩ := h15
          replace e15 : u 15 = .agg #[.bool sa15, .slice xa15 na15 ca15, .slice ya15 ma15 da15] := e15
          replace hm15 : na15 ≤ _ := hm15
          replace hn15 : ma15 ≤ _ := hn15
          replace hv15 : Qn w5 sa15 xa15 na15 fa15 ya15 ma15 ga15 _ := hv15
          simp only [fill, List.foldl_cons, List.foldl_nil, Act.put, List.setIfInBounds_toArray, List.set_cons_zero, List.set_cons_succ] at hK ⊢
          simp only [e6, e15] at hK ⊢
          go_simp
          go_at_call 48
          refine (qAdd_c hv6 hv15 (by omega) (by omega) (by omega) (by omega)).mono ?_
          rintro e w6 ⟨sq, zp, nq9, cp, dp, zq, mq9, cq, gq, rfl, hb6, hq1, hq2, hq⟩
          (try go_wp2_with fail)
          exact hK.out _ _ hb6 ⟨⟨sq, zp, nq9, cp, dp, zq, mq9, cq, gq⟩, rfl, Nat.le_trans hq1 (by omega), Nat.le_trans hq2 (by omega), hq⟩
        · refine ⟨_, rfl, fun u w5 hS hb5 hd K hK => ?_⟩
          have h16 : FN (20 * L + 9) (x + tq * dd) (u 16) w5 := hd 16 (by kernel_rfl) (by kernel_rfl)
          obtain ⟨⟨sa16, xa16, na16, ca16, fa16, ya16, ma16, da16, ga16⟩, e16, hm16, hn16, hv16⟩ := h16
          replace e16 : u 16 = .agg #[.bool sa16, .slice xa16 na16 ca16, .slice ya16 ma16 da16] := e16
          replace hm16 : na16 ≤ _ := hm16
          replace hn16 : ma16 ≤ _ := hn16
          replace hv16 : Qn w5 sa16 xa16 na16 fa16 ya16 ma16 ga16 _ := hv16
          simp only [fill, List.foldl_cons, List.foldl_nil, Act.put, List.setIfInBounds_toArray, List.set_cons_zero, List.set_cons_succ] at hK ⊢
          simp only [e16] at hK ⊢
          go_simp
          go_at_call 47
          refine (qToR_c hv16 (by omega) (by omega)).mono ?_
          rintro e w6 ⟨zp, nq9, cp, dp, zq, mq9, cq, gq, rfl, hb6, hq⟩
          (try go_wp2_with fail)
          exact hK.out _ _ hb6 ⟨⟨_, zp, nq9, cp, dp, zq, mq9, cq, gq⟩, rfl, hq.out.mono (by unfold KD; omega)⟩
      case k6 =>
        intro u w6 hS6 hb6 hg
        have h17 : NV (KD L) (x + tq * dd) (u 17) w6 := hg 17 (by simp)
        obtain ⟨⟨s6, x6, n6, c6, f6, y6, m6, d6, g6⟩, e17, hq6⟩ := h17
        replace e17 : u 17 = .agg #[.bool s6, .slice x6 n6 c6, .slice y6 m6 d6] := e17
        replace hq6 : Rn (KD L) w6 s6 x6 n6 c6 f6 y6 m6 d6 g6 (x + tq * dd) := hq6
        clear hg
        simp only [fill, List.foldl_cons, List.foldl_nil, Act.put, List.setIfInBounds_toArray, List.set_cons_zero, List.set_cons_succ]
        simp only [e17]
        clear e17
        have HB6 := hid (HBr.out.trans (hb6.mono HBr.out.size))
        replace HG := hid (HG.out.below hb6)
        refine wpAnyH_ready (rs := [18]) (by kernel_rfl) (by simp) ?_
        refine AllReadyH.cons (o := _) rfl (fun K hK => ?_) ?_
        rotate_left
        exact AllReadyH.nil
        go_simp
        refine hK.out _ _ ?_ (fun hH7 => ?_)
        · have hn := below_alloc (Below.refl w6.heap.size w6) (.cells #[.bool s6, .slice x6 n6 c6, .slice y6 m6 d6] 24)
          exact ⟨kCb hn hS6.1, kCb hn hS6.2.1, kCb hn hS6.2.2.1, kCb hn hS6.2.2.2.1, kCb hn hS6.2.2.2.2.1, kCb hn hS6.2.2.2.2.2.1, kCb hn hS6.2.2.2.2.2.2.1, kCb hn hS6.2.2.2.2.2.2.2.1, kCb hn hS6.2.2.2.2.2.2.2.2.1, kCb hn hS6.2.2.2.2.2.2.2.2.2.1, kCb hn hS6.2.2.2.2.2.2.2.2.2.2⟩
        clear hK K
        try simp only [Act.put, List.setIfInBounds_toArray, List.set_cons_zero, List.set_cons_succ]
        refine wpAnyH_ready (rs := [19]) (by kernel_rfl) (by simp) ?_
        refine AllReadyH.cons (o := _) rfl (fun K hK => ?_) ?_
        rotate_left
        exact AllReadyH.nil
        obtain ⟨T9, hrow, hT⟩ := HG.out
        have hli : ((alng xs ds tq).take i).length = i := by rw [List.length_take, alng_len (by omega)]; omega
        rw [hli] at hrow
        refine step_append_one w6 rfl (.tmp 36) (.tmp 54) 29 rfl w3.heap.size 24 56 3 (.agg #[.bool false, .slice none 0 0, .slice none 0 0]) Tryz.underlying29 Tryz.infoRat rfl (by decide) nz3 u6 i _ rfl hrow #[.bool s6, .slice x6 n6 c6, .slice y6 m6 d6] rfl rfl (one3 _ _ _ _ _ _ _) (not3 _ _ _ _ _ _ _) (by omega) (by decide) HB6.out.size ?_
        intro g8 cap8 w8 hr8 hk8 hb8 hg8
        have HB8 : Hid (Below w3.heap.size w3 w8) := hb8 w3 HB6.out (Nat.le_refl _)
        have HG8 : Hid (Gr (KD L) w3.heap.size w8 (.slice (some ⟨g8, 0, none⟩) (i + 1) cap8) ((alng xs ds tq).take (i + 1))) := by
          have hp8 := gr_push (p := (alng xs ds tq).take i) hT (by rw [hli]; exact hr8) hk8 hq6
          rw [hli] at hp8
          have e9 : (alng xs ds tq)[i]? = some (x + tq * dd) := by
            rw [alng_get, HXi.out, HDi.out]
            show some (0 + x + tq * dd) = _
            rw [show (0 : Rat) + x + tq * dd = x + tq * dd by grind]
          rw [List.take_add_one, e9]; exact hp8
        have BY8 := BY0.out.below HB8.out
        have BT8 := BT0.out.below HB8.out
        obtain ⟨p0, p1, p2⟩ := HP.out
        obtain ⟨q0, q1, q2⟩ := HQ.out
        refine hK.out _ _ ⟨BY8.cell (j := 0) rfl, BY8.cell (j := 1) rfl, BT8.cell (j := 0) rfl, BT8.cell (j := 1) rfl, BT8.cell (j := 2) rfl, kCb HB8.out p0, kCb HB8.out p1, kCb HB8.out p2, kCb HB8.out q0, kCb HB8.out q1, kCb HB8.out q2⟩ (fun hH8 => ?_)
        clear hK K BY8 BT8 p0 p1 p2 q0 q1 q2
        try simp only [Act.put, List.setIfInBounds_toArray]
        clear hr8 hk8 hb8 hg8 hrow hT hb6 hq6 HG HB6 hS6 hH7
        refine wpAnyH_take (i := 20) (v := ?_) rfl (by kernel_rfl) (by kernel_rfl) (by kernel_rfl) (fun _ _ _ h => h) (Or.inl ⟨by rfl, ?_⟩) (by assumption) ?_
        rotate_left
        (focus (intro w0 hSw; (try dsimp only at hSw); go_simp <;> with_reducible rfl))
        simp only [List.getElem_toArray, List.getElem_cons_succ, List.getElem_cons_zero, Act.put, List.setIfInBounds_toArray, List.set_cons_zero, List.set_cons_succ]
        refine wpAnyH_done (by kernel_rfl) ?_ _
        clear hHeld hH8 HP HQ R1 R2 HXi HDi
        go_wp2
        go_roundw
        case rel => exact ⟨i + 1, by omega, by go_num, HB8.out, HG8.out⟩
        case measure => simp [intOf]; omega
    · have e1 : i = k := by omega
      have i4' : ¬ (((i : Nat) : Int) < ((k : Nat) : Int)) := by omega
      have hla : (alng xs ds tq).length = k := (alng_len (by omega)).trans v2
      obtain ⟨va, vc, hvs, hvc⟩ := HG.out.slice
      rw [List.take_of_length_le (by omega)] at hvs hvc
      rw [hla] at hvs hvc
      have HG4 := HG.out
      rw [hvs] at HG4
      replace HG4 := hid (show Rf (KD L) wr va (alng xs ds tq) by have := HG4.rf; rw [List.take_of_length_le (by omega)] at this; exact this)
      subst hvs
      have HV4 := hid hvc
      clear HG e1 hvc hla
      go_wp2
      go_ret2
      exact ⟨HB0.out.trans (HBr.out.mono HB0.out.size), .inr ⟨rfl, va, vc, rfl, HV4.out, HG4.out⟩⟩
end Go.Proofs.YtlemkhgicdnlnaaGreat

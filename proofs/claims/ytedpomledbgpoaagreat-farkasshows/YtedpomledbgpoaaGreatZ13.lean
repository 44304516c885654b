/-
  Farkas' calls by values; the walk of law12's awake (written by makers/fk9.py). The walk of law13's awake (written by makers/ra5.py). The reference's models by their values; the walk of the reference's From of a model (written by makers/f32.py). A model that is well formed has values; the walks of the reference's Crossed and DocCrossed (written by makers/f33.py). The walk of the law ModelNames (written by makers/f28.py). The walk of law17's awake, and of StackNew (written by makers/o5.py). The walks of the reference's Same of points, of certificates and of bases that are alike; of the calls of a nil stack; of StackNone (written by makers/o6.py). Lists of numbers that are copies; the walk of law17's lists, and what it answers. Twins have the same values; what adds up along directions. The walks of law13's light, of the reference's Twin of a ray (written by makers/ra7.py). Ray's calls on twins of a model and of lists, by what the model and the lists are; the sum of two directions. Along a direction that recedes points stay points, and values move by the slope. Point's calls on twins, and on what lies along a direction. Calls on twins whose numbers are of at most K limbs, by what they are twins of. Law12's light, the reference's Twin of a certificate; farkas' calls on twins (written by makers/fk10.py). What multipliers show of a point; crossed bounds have multipliers that show that there is none.
-/
import Derived.Test.YtedpomledbgpoaaGreatZ12
import Derived.BigRegion
import Derived.Test.YtedpomledbgpoaaGreatZ0
import Derived.Test.YtedpomledbgpoaaGreatZ9
import Derived.Test.YtedpomledbgpoaaGreatZ10
import Derived.Test.YtedpomledbgpoaaGreatZ5
import Derived.Test.YtedpomledbgpoaaGreatZ7
namespace Go.Proofs.YtedpomledbgpoaaGreat
open Go.RowKit

theorem pnE_ok {k : Nat} {X : Nat → Nm} {z : Int} (h : afB k X = true) (e : (k : Int) = z) : pnE k X z = 0 := by unfold pnE; rw [if_pos h, if_pos e]
theorem cbE_ok {M : Mo} {k0 k1 k2 k3 : Nat} {X0 X1 X2 X3 : Nat → Nm} (h : chkE M = 0) (h0 : afB k0 X0 = true) (h1 : afB k1 X1 = true) (h2 : afB k2 X2 = true) (h3 : afB k3 X3 = true) (e0 : k0 = M.rk) (e1 : k1 = M.rk) (e2 : k2 = M.ck) (e3 : k3 = M.ck) : cbE M k0 X0 k1 X1 k2 X2 k3 X3 = 0 := by
  subst e0; subst e1; subst e2; subst e3
  unfold cbE fctE
  rw [h, pnE_ok h0 rfl, pnE_ok h1 rfl, pnE_ok h2 rfl, pnE_ok h3 rfl]
  rfl
theorem fValid_q {w : World} {L : Nat} {M : Mo} {off : Rat} {cs : List CV} {rs : List RV} {a0 a1 a2 a3 : Option Addr} {k0 c0 k1 c1 k2 c2 k3 c3 : Nat} {l0 l1 l2 l3 : List Rat} (h : MoV L w M off cs rs) (ho : mvOk cs rs = true) (x0 : Rf L w a0 l0) (x1 : Rf L w a1 l1) (x2 : Rf L w a2 l2) (x3 : Rf L w a3 l3) (e0 : l0.length = k0) (e1 : l1.length = k1) (e2 : l2.length = k2) (e3 : l3.length = k3) (q0 : k0 = rs.length) (q1 : k1 = rs.length) (q2 : k2 = cs.length) (q3 : k3 = cs.length) (hL1 : 4 ≤ L) (hL2 : L ≤ 100) :
    Calls Tryz.prog 9 #[M.val, .agg #[.slice a0 k0 c0, .slice a1 k1 c1, .slice a2 k2 c2, .slice a3 k3 c3]] w fun e w' => e = .returned (.tuple #[.bool (vldB 0 cs.length (bdA cs rs l0 l1 l2 l3)), .int .i64 0]) ∧ Below w.heap.size w w' := by
  obtain ⟨h1, h2⟩ := h.chk (by omega) ho
  have mp := mvOk_p ho
  have hcl := mp.cl; have hrl := mp.rl
  obtain ⟨X0, y0, z0⟩ := rf_rl x0 (by omega)
  rw [e0] at y0 z0
  obtain ⟨X1, y1, z1⟩ := rf_rl x1 (by omega)
  rw [e1] at y1 z1
  obtain ⟨X2, y2, z2⟩ := rf_rl x2 (by omega)
  rw [e2] at y2 z2
  obtain ⟨X3, y3, z3⟩ := rf_rl x3 (by omega)
  rw [e3] at y3 z3
  have he : cbE M k0 X0 k1 X1 k2 X2 k3 X3 = 0 := cbE_ok h1 z0 z1 z2 z3 (by rw [h.rk]; exact q0) (by rw [h.rk]; exact q1) (by rw [h.ck]; exact q2) (by rw [h.ck]; exact q3)
  have hv := fun (_ : (0 : Int) = 0) => And.intro h (And.intro ho (And.intro (And.intro x0 (And.intro x1 (And.intro x2 x3))) (And.intro (And.intro e0 (And.intro e1 (And.intro e2 e3))) (And.intro q0 (And.intro q1 (And.intro q2 q3))))))
  have := fValid_v (c0 := c0) (c1 := c1) (c2 := c2) (c3 := c3) (fun _ _ => h2) y0 y1 y2 y3 (by omega) (by omega) (by omega) (by omega) he hv hL1 hL2
  rw [h1] at this
  exact this
theorem fCombine_q {w : World} {L : Nat} {M : Mo} {off : Rat} {cs : List CV} {rs : List RV} {a0 a1 a2 a3 : Option Addr} {k0 c0 k1 c1 k2 c2 k3 c3 : Nat} {l0 l1 l2 l3 : List Rat} (h : MoV L w M off cs rs) (ho : mvOk cs rs = true) (x0 : Rf L w a0 l0) (x1 : Rf L w a1 l1) (x2 : Rf L w a2 l2) (x3 : Rf L w a3 l3) (e0 : l0.length = k0) (e1 : l1.length = k1) (e2 : l2.length = k2) (e3 : l3.length = k3) (q0 : k0 = rs.length) (q1 : k1 = rs.length) (q2 : k2 = cs.length) (q3 : k3 = cs.length) (hL1 : 4 ≤ L) (hL2 : L ≤ 100) :
    Calls Tryz.prog 17 #[M.val, .agg #[.slice a0 k0 c0, .slice a1 k1 c1, .slice a2 k2 c2, .slice a3 k3 c3]] w fun e w' => CmbAns L w w' e 0 cs (bdA cs rs l0 l1 l2 l3) := by
  obtain ⟨h1, h2⟩ := h.chk (by omega) ho
  have mp := mvOk_p ho
  have hcl := mp.cl; have hrl := mp.rl
  obtain ⟨X0, y0, z0⟩ := rf_rl x0 (by omega)
  rw [e0] at y0 z0
  obtain ⟨X1, y1, z1⟩ := rf_rl x1 (by omega)
  rw [e1] at y1 z1
  obtain ⟨X2, y2, z2⟩ := rf_rl x2 (by omega)
  rw [e2] at y2 z2
  obtain ⟨X3, y3, z3⟩ := rf_rl x3 (by omega)
  rw [e3] at y3 z3
  have he : cbE M k0 X0 k1 X1 k2 X2 k3 X3 = 0 := cbE_ok h1 z0 z1 z2 z3 (by rw [h.rk]; exact q0) (by rw [h.rk]; exact q1) (by rw [h.ck]; exact q2) (by rw [h.ck]; exact q3)
  have hv := fun (_ : (0 : Int) = 0) => And.intro h (And.intro ho (And.intro (And.intro x0 (And.intro x1 (And.intro x2 x3))) (And.intro (And.intro e0 (And.intro e1 (And.intro e2 e3))) (And.intro q0 (And.intro q1 (And.intro q2 q3))))))
  exact fCombine_v (c0 := c0) (c1 := c1) (c2 := c2) (c3 := c3) (fun _ _ => h2) y0 y1 y2 y3 (by omega) (by omega) (by omega) (by omega) he hv hL1 hL2
theorem fCrossing_q {w : World} {L : Nat} {M : Mo} {off : Rat} {cs : List CV} {rs : List RV} (h : MoV L w M off cs rs) (ho : mvOk cs rs = true) (hL : L ≤ 100) :
    Calls Tryz.prog 14 #[M.val] w fun e w' => CsgAns w w' e 0 cs rs := by
  obtain ⟨h1, h2⟩ := h.chk (by omega) ho
  exact fCrossing_v (fun _ _ => h2) (fun _ _ => h.mob hL) h1 (fun _ => ⟨h, ho⟩)
theorem Rf.fr {F : Nat → Prop} {L w w' B o p} (h : Rf L w (some ⟨B, o, none⟩) p) (hf : Fr F w w') (hn : ¬ F B) : Rf L w' (some ⟨B, o, none⟩) p := fun j q e => by
  obtain ⟨b, o', t, e1, h1, h2⟩ := h j q e
  cases e1
  exact ⟨_, _, t, rfl, ⟨hf.cell hn h1.x0, hf.cell hn h1.x1, hf.cell hn h1.x2⟩, hf.rn h2⟩
theorem k1_ok : mvOk k1C k1R = true := by decide +kernel
def k1B : List BV := [⟨1, 0, 2, false, [(0, 1)]⟩, ⟨0, 0, 9, true, [(0, 1)]⟩, ⟨0, 0, 0, false, [(0, 1)]⟩, ⟨1, 0, 1, true, [(0, 1)]⟩]
theorem k1_v : vldB 0 k1C.length k1B = true := by decide +kernel
theorem k1_i : k1B.any infB = false := by decide +kernel
theorem k1_l : (List.range k1C.length).map (cmbQ k1B) = [((0 : Int) : Rat)] := by decide +kernel
theorem k1_s : cmbS k1B = ((1 : Int) : Rat) := by decide +kernel
theorem k1_x : crl (cvC k1C) k1C.length = [] ∧ crl (cvR k1R) k1R.length = [] := by decide +kernel
set_option maxRecDepth 100000 in
set_option maxHeartbeats 8000000 in
theorem awake12_c (w : World) : Calls Tryz.prog 5 #[] w fun e w' => e = .returned (.bool true) ∧ Below w.heap.size w w' := by
  have HB := hid (Below.refl w.heap.size w)
  go_enter Tryz.func5, Tryz.ntmps5
  go_wp2_with fail
  refine (one12_c (z := 1) (by decide) (by decide)).mono ?_
  rintro e v0 ⟨a0, rfl, hb, hx⟩
  replace HB := hid (HB.out.trans (hb.mono HB.out.size))
  have X0 := hid hx.out
  clear hb hx
  go_wp2_with fail
  refine (one12_c (z := 0) (by decide) (by decide)).mono ?_
  rintro e v1 ⟨a1, rfl, hb, hx⟩
  replace HB := hid (HB.out.trans (hb.mono HB.out.size)); replace X0 := hid (X0.out.below hb)
  have X1 := hid hx.out
  clear hb hx
  go_wp2_with fail
  refine (one12_c (z := 0) (by decide) (by decide)).mono ?_
  rintro e v2 ⟨a2, rfl, hb, hx⟩
  replace HB := hid (HB.out.trans (hb.mono HB.out.size)); replace X0 := hid (X0.out.below hb); replace X1 := hid (X1.out.below hb)
  have X2 := hid hx.out
  clear hb hx
  go_wp2_with fail
  refine (one12_c (z := 1) (by decide) (by decide)).mono ?_
  rintro e v3 ⟨a3, rfl, hb, hx⟩
  replace HB := hid (HB.out.trans (hb.mono HB.out.size)); replace X0 := hid (X0.out.below hb); replace X1 := hid (X1.out.below hb); replace X2 := hid (X2.out.below hb)
  have X3 := hid hx.out
  clear hb hx
  have hbn := below_alloc (Below.refl v3.heap.size v3) (.cells #[.slice a0 1 1, .slice a1 1 1, .slice a2 1 1, .slice a3 1 1] 31)
  have BK : Hid (Bk (v3.alloc (.cells #[.slice a0 1 1, .slice a1 1 1, .slice a2 1 1, .slice a3 1 1] 31)) v3.heap.size [.slice a0 1 1, .slice a1 1 1, .slice a2 1 1, .slice a3 1 1] 31) := bk_new v3 [.slice a0 1 1, .slice a1 1 1, .slice a2 1 1, .slice a3 1 1] 31
  replace HB := hid (HB.out.trans (hbn.mono HB.out.size)); replace X0 := hid (X0.out.below hbn); replace X1 := hid (X1.out.below hbn); replace X2 := hid (X2.out.below hbn); replace X3 := hid (X3.out.below hbn)
  clear hbn
  go_upto_region 2 with fail
  generalize v3.alloc (.cells #[.slice a0 1 1, .slice a1 1 1, .slice a2 1 1, .slice a3 1 1] 31) = v4 at *
  generalize v3.heap.size = xk at *
  have hbd := Below.drew (Below.refl v4.heap.size v4)
  replace HB := hid (HB.out.trans (hbd.mono HB.out.size)); replace X0 := hid (X0.out.below hbd); replace X1 := hid (X1.out.below hbd); replace X2 := hid (X2.out.below hbd); replace X3 := hid (X3.out.below hbd); replace BK := hid (BK.out.below hbd)
  clear hbd
  have r0 := BK.out.cell (j := 0) rfl
  have r1 := BK.out.cell (j := 1) rfl
  have r2 := BK.out.cell (j := 2) rfl
  have r3 := BK.out.cell (j := 3) rfl
  refine wp_region_held_drew (S := (fun w' => w'.cell? ⟨xk, 0, none⟩ = some (.slice a0 1 1) ∧ w'.cell? ⟨xk, 1, none⟩ = some (.slice a1 1 1) ∧ w'.cell? ⟨xk, 2, none⟩ = some (.slice a2 1 1) ∧ w'.cell? ⟨xk, 3, none⟩ = some (.slice a3 1 1))) (by kernel_rfl) ?_ (fun hHeld => ?_)
  · exact ⟨r0, r1, r2, r3⟩
  generalize v4.drew = u0 at *
  refine tkO 1 ?_
  simp only [lay_, Act.put]
  refine wpAnyH_ready (rs := [0]) (by kernel_rfl) (by simp) ?_
  refine AllReadyH.cons (o := _) rfl (fun K hK => ?_) ?_
  rotate_left
  exact AllReadyH.nil
  go_simp
  go_at_call 24
  refine first12_c.mono ?_
  rintro e u1 ⟨⟨⟨sm, xm, nm, cm, fm, ym, mm, dm, gm⟩, cam, ckm, ccm, Cm, ram, rkm, rcm, Rm⟩, rfl, hb, HM⟩
  (try go_wp2_with fail)
  refine hK.out _ _ ?_ (fun hH0 => ?_)
  · ((try dsimp only); (refine ⟨?_, ?_, ?_, ?_⟩ <;> repeat (with_reducible first | assumption | refine kCb (by assumption) ?_)))
  clear hK K
  try simp only [lay_, Act.put]
  clear r0 r1 r2 r3
  obtain ⟨r0, r1, r2, r3⟩ := id hH0
  replace HB := hid (HB.out.trans (hb.mono HB.out.size)); replace X0 := hid (X0.out.below hb); replace X1 := hid (X1.out.below hb); replace X2 := hid (X2.out.below hb); replace X3 := hid (X3.out.below hb); replace BK := hid (BK.out.below hb)
  clear hb
  refine wpAnyH_ready (rs := [2]) (by kernel_rfl) (by simp) ?_
  refine AllReadyH.cons (o := _) rfl (fun K hK => ?_) ?_
  rotate_left
  exact AllReadyH.nil
  go_simp
  go_at_call 9
  refine (fValid_q (L := 8) HM.out k1_ok (Rf.mono X0.out (by decide)) (Rf.mono X1.out (by decide)) (Rf.mono X2.out (by decide)) (Rf.mono X3.out (by decide)) rfl rfl rfl rfl rfl rfl rfl rfl (by decide) (by decide)).mono ?_
  rintro e u2 ⟨rfl, hb⟩
  rw [show vldB 0 k1C.length (bdA k1C k1R [((1 : Int) : Rat)] [((0 : Int) : Rat)] [((0 : Int) : Rat)] [((1 : Int) : Rat)]) = true from k1_v]
  (try go_wp2_with fail)
  refine hK.out _ _ ?_ (fun hH1 => ?_)
  · ((try dsimp only); (refine ⟨?_, ?_, ?_, ?_⟩ <;> repeat (with_reducible first | assumption | refine kCb (by assumption) ?_)))
  clear hK K
  try simp only [lay_, Act.put]
  clear r0 r1 r2 r3
  obtain ⟨r0, r1, r2, r3⟩ := id hH1
  replace HB := hid (HB.out.trans (hb.mono HB.out.size)); replace X0 := hid (X0.out.below hb); replace X1 := hid (X1.out.below hb); replace X2 := hid (X2.out.below hb); replace X3 := hid (X3.out.below hb); replace BK := hid (BK.out.below hb)
  clear hb HM
  refine tkO 3 ?_
  simp only [lay_, Act.put]
  refine tkO 4 ?_
  simp only [lay_, Act.put]
  refine tkO 5 ?_
  simp only [lay_, Act.put]
  refine tkO 6 ?_
  simp only [lay_, Act.put]
  refine tkO 7 ?_
  simp only [lay_, Act.put]
  refine wpAnyH_done (by kernel_rfl) ?_ _
  clear hHeld hH0 hH1 r0 r1 r2 r3
  go_upto_region 3 with fail
  go_cut [4, 5, 6] from 20 to 26 (fun p q r wx => ∃ (wz : World) (B bx : Nat) (s : Bool) (x : Option Addr) (n c : Nat) (f : Nat → Int) (y : Option Addr) (m d : Nat) (g : Nat → Int), wz = wx ∧ p = .slice (some ⟨B, 0, none⟩) 1 1 ∧ q = .pointer (some ⟨bx, 0, none⟩) ∧ r = .int .i64 0 ∧ Hid (Below w.heap.size w wz) ∧ Hid (Rf (KC 8) wz (some ⟨B, 0, none⟩) [((0 : Int) : Rat)]) ∧ Hid (Sx wz bx s x n c y m d) ∧ Hid (Rn (KC 8) wz s x n c f y m d g ((1 : Int) : Rat)))
  case first =>
    have hbd := Below.drew (Below.refl u2.heap.size u2)
    replace HB := hid (HB.out.trans (hbd.mono HB.out.size)); replace X0 := hid (X0.out.below hbd); replace X1 := hid (X1.out.below hbd); replace X2 := hid (X2.out.below hbd); replace X3 := hid (X3.out.below hbd); replace BK := hid (BK.out.below hbd)
    clear hbd
    have r0 := BK.out.cell (j := 0) rfl
    have r1 := BK.out.cell (j := 1) rfl
    have r2 := BK.out.cell (j := 2) rfl
    have r3 := BK.out.cell (j := 3) rfl
    refine wp_region_held_drew (S := (fun w' => w'.cell? ⟨xk, 0, none⟩ = some (.slice a0 1 1) ∧ w'.cell? ⟨xk, 1, none⟩ = some (.slice a1 1 1) ∧ w'.cell? ⟨xk, 2, none⟩ = some (.slice a2 1 1) ∧ w'.cell? ⟨xk, 3, none⟩ = some (.slice a3 1 1))) (by kernel_rfl) ?_ (fun hHeld => ?_)
    · exact ⟨r0, r1, r2, r3⟩
    generalize u2.drew = u3 at *
    refine tkO 1 ?_
    simp only [lay_, Act.put]
    refine wpAnyH_ready (rs := [0, 7]) (by kernel_rfl) (by simp) ?_
    refine AllReadyH.cons (o := _) rfl (fun K hK => ?_) ?_
    · go_simp
      go_at_call 24
      refine first12_c.mono ?_
      rintro e u4 ⟨⟨⟨sm, xm, nm, cm, fm, ym, mm, dm, gm⟩, cam, ckm, ccm, Cm, ram, rkm, rcm, Rm⟩, rfl, hb, HM⟩
      (try go_wp2_with fail)
      refine hK.out _ _ ?_ (fun hHa => ?_)
      · ((try dsimp only); (refine ⟨?_, ?_, ?_, ?_⟩ <;> repeat (with_reducible first | assumption | refine kCb (by assumption) ?_)))
      clear hK K
      try simp only [lay_, Act.put]
      clear r0 r1 r2 r3
      obtain ⟨r0, r1, r2, r3⟩ := id hHa
      replace HB := hid (HB.out.trans (hb.mono HB.out.size)); replace X0 := hid (X0.out.below hb); replace X1 := hid (X1.out.below hb); replace X2 := hid (X2.out.below hb); replace X3 := hid (X3.out.below hb); replace BK := hid (BK.out.below hb)
      clear hb
      refine wpAnyH_ready (rs := [2, 7]) (by kernel_rfl) (by simp) ?_
      refine AllReadyH.cons (o := _) rfl (fun K hK => ?_) ?_
      · go_simp
        go_at_call 17
        refine (fCombine_q (L := 8) HM.out k1_ok (Rf.mono X0.out (by decide)) (Rf.mono X1.out (by decide)) (Rf.mono X2.out (by decide)) (Rf.mono X3.out (by decide)) rfl rfl rfl rfl rfl rfl rfl rfl (by decide) (by decide)).mono ?_
        rintro e u5 ⟨hb, ⟨h9, _⟩ | ⟨_, h9, _⟩ | ⟨_, _, B, s7, x7, n7, c7, f7, y7, m7, d7, g7, hBB, rfl, hrf, hrn⟩⟩
        · exact absurd rfl h9
        · rw [show (bdA k1C k1R [((1 : Int) : Rat)] [((0 : Int) : Rat)] [((0 : Int) : Rat)] [((1 : Int) : Rat)]).any infB = false from k1_i] at h9; cases h9
        rw [show k1C.length = 1 from rfl]
        (try go_wp2_with fail)
        refine hK.out _ _ ?_ (fun hHb => ?_)
        · ((try dsimp only); (refine ⟨?_, ?_, ?_, ?_⟩ <;> repeat (with_reducible first | assumption | refine kCb (by assumption) ?_)))
        clear hK K
        try simp only [lay_, Act.put]
        clear r0 r1 r2 r3
        obtain ⟨r0, r1, r2, r3⟩ := id hHb
        rw [show (List.range k1C.length).map (cmbQ (bdA k1C k1R [((1 : Int) : Rat)] [((0 : Int) : Rat)] [((0 : Int) : Rat)] [((1 : Int) : Rat)])) = [((0 : Int) : Rat)] from k1_l] at hrf
        rw [show cmbS (bdA k1C k1R [((1 : Int) : Rat)] [((0 : Int) : Rat)] [((0 : Int) : Rat)] [((1 : Int) : Rat)]) = ((1 : Int) : Rat) from k1_s] at hrn
        have RF := hid hrf; have RN := hid hrn
        have hb1 := hBB.1; have hb2 := hBB.2
        replace HB := hid (HB.out.trans (hb.mono HB.out.size)); replace X0 := hid (X0.out.below hb); replace X1 := hid (X1.out.below hb); replace X2 := hid (X2.out.below hb); replace X3 := hid (X3.out.below hb); replace BK := hid (BK.out.below hb)
        clear hb hrf hrn HM
        refine tkO 3 ?_
        simp only [lay_, Act.put]
        refine tkO 4 ?_
        simp only [lay_, Act.put]
        refine tkO 5 ?_
        simp only [lay_, Act.put]
        refine tkO 6 ?_
        simp only [lay_, Act.put]
        refine wpAnyH_ready (rs := [7]) (by kernel_rfl) (by simp) ?_
        refine AllReadyH.cons (o := _) rfl (fun K hK => ?_) ?_
        rotate_left
        exact AllReadyH.nil
        go_simp
        have HXK : Hid (¬ (xk = u5.heap.size)) := fun e => by have := BK.out.lt; omega
        have HWB : Hid (w.heap.size ≤ u5.heap.size) := HB.out.size
        have hbA := below_alloc (Below.refl u5.heap.size u5) (.cells #[.bool false, .slice none 0 0, .slice none 0 0] 24)
        have BX := hid (bk_new u5 [.bool false, .slice none 0 0, .slice none 0 0] 24)
        replace BX : Hid (Bk (u5.alloc (.cells #[.bool false, .slice none 0 0, .slice none 0 0] 24)) u5.heap.size [.bool false, .slice none 0 0, .slice none 0 0] 24) := BX
        refine hK.out _ _ ?_ (fun hHc => ?_)
        · ((try dsimp only); (refine ⟨?_, ?_, ?_, ?_⟩ <;> repeat (with_reducible first | assumption | refine kCb (by assumption) ?_)))
        clear hK K
        try simp only [lay_, Act.put]
        clear r0 r1 r2 r3
        obtain ⟨r0, r1, r2, r3⟩ := id hHc
        replace HB := hid (HB.out.trans (hbA.mono HB.out.size)); replace X0 := hid (X0.out.below hbA); replace X1 := hid (X1.out.below hbA); replace X2 := hid (X2.out.below hbA); replace X3 := hid (X3.out.below hbA); replace BK := hid (BK.out.below hbA)
        have hsA := hbA.size
        replace RF := hid (RF.out.below hbA); replace RN := hid (RN.out.below hbA)
        generalize hWA : u5.alloc (.cells #[.bool false, .slice none 0 0, .slice none 0 0] 24) = u6 at *
        clear hWA hbA
        generalize hbx : u5.heap.size = bx at *
        refine tkO 8 ?_
        simp only [lay_, Act.put]
        refine wpAnyH_ready (rs := [9]) (by kernel_rfl) (by simp) ?_
        refine AllReadyH.cons (o := _) rfl (fun K hK => ?_) ?_
        rotate_left
        exact AllReadyH.nil
        have SX := hid BX.out.sx
        obtain ⟨sz, z0, z1, z2, zf⟩ := BX.out.sx
        have FG := hid (sx_fr (u0 := .bool s7) (u1 := .slice x7 n7 c7) (u2 := .slice y7 m7 d7) SX.out)
        go_simp
        refine hK.out _ _ ?_ (fun hHd => ?_)
        · exact ⟨FG.out.cell HXK.out (BK.out.cell (j := 0) rfl), FG.out.cell HXK.out (BK.out.cell (j := 1) rfl), FG.out.cell HXK.out (BK.out.cell (j := 2) rfl), FG.out.cell HXK.out (BK.out.cell (j := 3) rfl)⟩
        clear hK K
        try simp only [lay_, Act.put]
        refine tkO 10 ?_
        simp only [lay_, Act.put]
        refine wpAnyH_done (by kernel_rfl) ?_ _
        have HSX := hid (SX.out.st (s1 := s7) (x1 := x7) (n1 := n7) (c1 := c7) (y1 := y7) (m1 := m7) (d1 := d7)); have HRN := hid (FG.out.rn RN.out)
        have HRF : Hid (Rf (KC 8) _ (some ⟨B, 0, none⟩) [((0 : Int) : Rat)]) := RF.out.fr FG.out (by omega)
        have HBz := hid (Fr.below HB.out FG.out (fun k hk => by have := HWB.out; omega))
        (try go_wp2_with fail)
        go_meet
        exact ⟨_, B, _, s7, x7, n7, c7, f7, y7, m7, d7, g7, rfl, rfl, rfl, rfl, HBz.out, HRF.out, HSX.out, HRN.out⟩
      refine AllReadyH.cons (o := _) rfl (fun K hK => ?_) ?_
      · go_simp
        have HXK : Hid (¬ (xk = u4.heap.size)) := fun e => by have := BK.out.lt; omega
        have HWB : Hid (w.heap.size ≤ u4.heap.size) := HB.out.size
        have hbA := below_alloc (Below.refl u4.heap.size u4) (.cells #[.bool false, .slice none 0 0, .slice none 0 0] 24)
        have BX := hid (bk_new u4 [.bool false, .slice none 0 0, .slice none 0 0] 24)
        replace BX : Hid (Bk (u4.alloc (.cells #[.bool false, .slice none 0 0, .slice none 0 0] 24)) u4.heap.size [.bool false, .slice none 0 0, .slice none 0 0] 24) := BX
        refine hK.out _ _ ?_ (fun hHc => ?_)
        · ((try dsimp only); (refine ⟨?_, ?_, ?_, ?_⟩ <;> repeat (with_reducible first | assumption | refine kCb (by assumption) ?_)))
        clear hK K
        try simp only [lay_, Act.put]
        clear r0 r1 r2 r3
        obtain ⟨r0, r1, r2, r3⟩ := id hHc
        replace HB := hid (HB.out.trans (hbA.mono HB.out.size)); replace X0 := hid (X0.out.below hbA); replace X1 := hid (X1.out.below hbA); replace X2 := hid (X2.out.below hbA); replace X3 := hid (X3.out.below hbA); replace BK := hid (BK.out.below hbA)
        have hsA := hbA.size
        replace HM := hid (HM.out.below hbA)
        generalize hWA : u4.alloc (.cells #[.bool false, .slice none 0 0, .slice none 0 0] 24) = u7 at *
        clear hWA hbA
        generalize hbx : u4.heap.size = bx at *
        refine wpAnyH_ready (rs := [2]) (by kernel_rfl) (by simp) ?_
        refine AllReadyH.cons (o := _) rfl (fun K hK => ?_) ?_
        rotate_left
        exact AllReadyH.nil
        go_simp
        go_at_call 17
        refine (fCombine_q (L := 8) HM.out k1_ok (Rf.mono X0.out (by decide)) (Rf.mono X1.out (by decide)) (Rf.mono X2.out (by decide)) (Rf.mono X3.out (by decide)) rfl rfl rfl rfl rfl rfl rfl rfl (by decide) (by decide)).mono ?_
        rintro e u8 ⟨hb, ⟨h9, _⟩ | ⟨_, h9, _⟩ | ⟨_, _, B, s7, x7, n7, c7, f7, y7, m7, d7, g7, hBB, rfl, hrf, hrn⟩⟩
        · exact absurd rfl h9
        · rw [show (bdA k1C k1R [((1 : Int) : Rat)] [((0 : Int) : Rat)] [((0 : Int) : Rat)] [((1 : Int) : Rat)]).any infB = false from k1_i] at h9; cases h9
        rw [show k1C.length = 1 from rfl]
        (try go_wp2_with fail)
        refine hK.out _ _ ?_ (fun hHb => ?_)
        · ((try dsimp only); (refine ⟨?_, ?_, ?_, ?_⟩ <;> repeat (with_reducible first | assumption | refine kCb (by assumption) ?_)))
        clear hK K
        try simp only [lay_, Act.put]
        clear r0 r1 r2 r3
        obtain ⟨r0, r1, r2, r3⟩ := id hHb
        rw [show (List.range k1C.length).map (cmbQ (bdA k1C k1R [((1 : Int) : Rat)] [((0 : Int) : Rat)] [((0 : Int) : Rat)] [((1 : Int) : Rat)])) = [((0 : Int) : Rat)] from k1_l] at hrf
        rw [show cmbS (bdA k1C k1R [((1 : Int) : Rat)] [((0 : Int) : Rat)] [((0 : Int) : Rat)] [((1 : Int) : Rat)]) = ((1 : Int) : Rat) from k1_s] at hrn
        have RF := hid hrf; have RN := hid hrn
        have hb1 := hBB.1; have hb2 := hBB.2
        have hlt := BX.out.lt
        replace HB := hid (HB.out.trans (hb.mono HB.out.size)); replace X0 := hid (X0.out.below hb); replace X1 := hid (X1.out.below hb); replace X2 := hid (X2.out.below hb); replace X3 := hid (X3.out.below hb); replace BK := hid (BK.out.below hb); replace BX := hid (BX.out.below hb)
        clear hb hrf hrn HM
        refine tkO 3 ?_
        simp only [lay_, Act.put]
        refine tkO 4 ?_
        simp only [lay_, Act.put]
        refine tkO 5 ?_
        simp only [lay_, Act.put]
        refine tkO 6 ?_
        simp only [lay_, Act.put]
        refine tkO 8 ?_
        simp only [lay_, Act.put]
        refine wpAnyH_ready (rs := [9]) (by kernel_rfl) (by simp) ?_
        refine AllReadyH.cons (o := _) rfl (fun K hK => ?_) ?_
        rotate_left
        exact AllReadyH.nil
        have SX := hid BX.out.sx
        obtain ⟨sz, z0, z1, z2, zf⟩ := BX.out.sx
        have FG := hid (sx_fr (u0 := .bool s7) (u1 := .slice x7 n7 c7) (u2 := .slice y7 m7 d7) SX.out)
        go_simp
        refine hK.out _ _ ?_ (fun hHd => ?_)
        · exact ⟨FG.out.cell HXK.out (BK.out.cell (j := 0) rfl), FG.out.cell HXK.out (BK.out.cell (j := 1) rfl), FG.out.cell HXK.out (BK.out.cell (j := 2) rfl), FG.out.cell HXK.out (BK.out.cell (j := 3) rfl)⟩
        clear hK K
        try simp only [lay_, Act.put]
        refine tkO 10 ?_
        simp only [lay_, Act.put]
        refine wpAnyH_done (by kernel_rfl) ?_ _
        have HSX := hid (SX.out.st (s1 := s7) (x1 := x7) (n1 := n7) (c1 := c7) (y1 := y7) (m1 := m7) (d1 := d7)); have HRN := hid (FG.out.rn RN.out)
        have HRF : Hid (Rf (KC 8) _ (some ⟨B, 0, none⟩) [((0 : Int) : Rat)]) := RF.out.fr FG.out (by omega)
        have HBz := hid (Fr.below HB.out FG.out (fun k hk => by have := HWB.out; omega))
        (try go_wp2_with fail)
        go_meet
        exact ⟨_, B, _, s7, x7, n7, c7, f7, y7, m7, d7, g7, rfl, rfl, rfl, rfl, HBz.out, HRF.out, HSX.out, HRN.out⟩
      exact AllReadyH.nil
    refine AllReadyH.cons (o := _) rfl (fun K hK => ?_) ?_
    · go_simp
      have HXK : Hid (¬ (xk = u3.heap.size)) := fun e => by have := BK.out.lt; omega
      have HWB : Hid (w.heap.size ≤ u3.heap.size) := HB.out.size
      have hbA := below_alloc (Below.refl u3.heap.size u3) (.cells #[.bool false, .slice none 0 0, .slice none 0 0] 24)
      have BX := hid (bk_new u3 [.bool false, .slice none 0 0, .slice none 0 0] 24)
      replace BX : Hid (Bk (u3.alloc (.cells #[.bool false, .slice none 0 0, .slice none 0 0] 24)) u3.heap.size [.bool false, .slice none 0 0, .slice none 0 0] 24) := BX
      refine hK.out _ _ ?_ (fun hHc => ?_)
      · ((try dsimp only); (refine ⟨?_, ?_, ?_, ?_⟩ <;> repeat (with_reducible first | assumption | refine kCb (by assumption) ?_)))
      clear hK K
      try simp only [lay_, Act.put]
      clear r0 r1 r2 r3
      obtain ⟨r0, r1, r2, r3⟩ := id hHc
      replace HB := hid (HB.out.trans (hbA.mono HB.out.size)); replace X0 := hid (X0.out.below hbA); replace X1 := hid (X1.out.below hbA); replace X2 := hid (X2.out.below hbA); replace X3 := hid (X3.out.below hbA); replace BK := hid (BK.out.below hbA)
      have hsA := hbA.size
      generalize hWA : u3.alloc (.cells #[.bool false, .slice none 0 0, .slice none 0 0] 24) = u9 at *
      clear hWA hbA
      generalize hbx : u3.heap.size = bx at *
      refine wpAnyH_ready (rs := [0]) (by kernel_rfl) (by simp) ?_
      refine AllReadyH.cons (o := _) rfl (fun K hK => ?_) ?_
      rotate_left
      exact AllReadyH.nil
      go_simp
      go_at_call 24
      refine first12_c.mono ?_
      rintro e u10 ⟨⟨⟨sm, xm, nm, cm, fm, ym, mm, dm, gm⟩, cam, ckm, ccm, Cm, ram, rkm, rcm, Rm⟩, rfl, hb, HM⟩
      (try go_wp2_with fail)
      refine hK.out _ _ ?_ (fun hHa => ?_)
      · ((try dsimp only); (refine ⟨?_, ?_, ?_, ?_⟩ <;> repeat (with_reducible first | assumption | refine kCb (by assumption) ?_)))
      clear hK K
      try simp only [lay_, Act.put]
      clear r0 r1 r2 r3
      obtain ⟨r0, r1, r2, r3⟩ := id hHa
      replace HB := hid (HB.out.trans (hb.mono HB.out.size)); replace X0 := hid (X0.out.below hb); replace X1 := hid (X1.out.below hb); replace X2 := hid (X2.out.below hb); replace X3 := hid (X3.out.below hb); replace BK := hid (BK.out.below hb); replace BX := hid (BX.out.below hb)
      clear hb
      refine wpAnyH_ready (rs := [2]) (by kernel_rfl) (by simp) ?_
      refine AllReadyH.cons (o := _) rfl (fun K hK => ?_) ?_
      rotate_left
      exact AllReadyH.nil
      go_simp
      go_at_call 17
      refine (fCombine_q (L := 8) HM.out k1_ok (Rf.mono X0.out (by decide)) (Rf.mono X1.out (by decide)) (Rf.mono X2.out (by decide)) (Rf.mono X3.out (by decide)) rfl rfl rfl rfl rfl rfl rfl rfl (by decide) (by decide)).mono ?_
      rintro e u11 ⟨hb, ⟨h9, _⟩ | ⟨_, h9, _⟩ | ⟨_, _, B, s7, x7, n7, c7, f7, y7, m7, d7, g7, hBB, rfl, hrf, hrn⟩⟩
      · exact absurd rfl h9
      · rw [show (bdA k1C k1R [((1 : Int) : Rat)] [((0 : Int) : Rat)] [((0 : Int) : Rat)] [((1 : Int) : Rat)]).any infB = false from k1_i] at h9; cases h9
      rw [show k1C.length = 1 from rfl]
      (try go_wp2_with fail)
      refine hK.out _ _ ?_ (fun hHb => ?_)
      · ((try dsimp only); (refine ⟨?_, ?_, ?_, ?_⟩ <;> repeat (with_reducible first | assumption | refine kCb (by assumption) ?_)))
      clear hK K
      try simp only [lay_, Act.put]
      clear r0 r1 r2 r3
      obtain ⟨r0, r1, r2, r3⟩ := id hHb
      rw [show (List.range k1C.length).map (cmbQ (bdA k1C k1R [((1 : Int) : Rat)] [((0 : Int) : Rat)] [((0 : Int) : Rat)] [((1 : Int) : Rat)])) = [((0 : Int) : Rat)] from k1_l] at hrf
      rw [show cmbS (bdA k1C k1R [((1 : Int) : Rat)] [((0 : Int) : Rat)] [((0 : Int) : Rat)] [((1 : Int) : Rat)]) = ((1 : Int) : Rat) from k1_s] at hrn
      have RF := hid hrf; have RN := hid hrn
      have hb1 := hBB.1; have hb2 := hBB.2
      have hlt := BX.out.lt
      replace HB := hid (HB.out.trans (hb.mono HB.out.size)); replace X0 := hid (X0.out.below hb); replace X1 := hid (X1.out.below hb); replace X2 := hid (X2.out.below hb); replace X3 := hid (X3.out.below hb); replace BK := hid (BK.out.below hb); replace BX := hid (BX.out.below hb)
      clear hb hrf hrn HM
      refine tkO 3 ?_
      simp only [lay_, Act.put]
      refine tkO 4 ?_
      simp only [lay_, Act.put]
      refine tkO 5 ?_
      simp only [lay_, Act.put]
      refine tkO 6 ?_
      simp only [lay_, Act.put]
      refine tkO 8 ?_
      simp only [lay_, Act.put]
      refine wpAnyH_ready (rs := [9]) (by kernel_rfl) (by simp) ?_
      refine AllReadyH.cons (o := _) rfl (fun K hK => ?_) ?_
      rotate_left
      exact AllReadyH.nil
      have SX := hid BX.out.sx
      obtain ⟨sz, z0, z1, z2, zf⟩ := BX.out.sx
      have FG := hid (sx_fr (u0 := .bool s7) (u1 := .slice x7 n7 c7) (u2 := .slice y7 m7 d7) SX.out)
      go_simp
      refine hK.out _ _ ?_ (fun hHd => ?_)
      · exact ⟨FG.out.cell HXK.out (BK.out.cell (j := 0) rfl), FG.out.cell HXK.out (BK.out.cell (j := 1) rfl), FG.out.cell HXK.out (BK.out.cell (j := 2) rfl), FG.out.cell HXK.out (BK.out.cell (j := 3) rfl)⟩
      clear hK K
      try simp only [lay_, Act.put]
      refine tkO 10 ?_
      simp only [lay_, Act.put]
      refine wpAnyH_done (by kernel_rfl) ?_ _
      have HSX := hid (SX.out.st (s1 := s7) (x1 := x7) (n1 := n7) (c1 := c7) (y1 := y7) (m1 := m7) (d1 := d7)); have HRN := hid (FG.out.rn RN.out)
      have HRF : Hid (Rf (KC 8) _ (some ⟨B, 0, none⟩) [((0 : Int) : Rat)]) := RF.out.fr FG.out (by omega)
      have HBz := hid (Fr.below HB.out FG.out (fun k hk => by have := HWB.out; omega))
      (try go_wp2_with fail)
      go_meet
      exact ⟨_, B, _, s7, x7, n7, c7, f7, y7, m7, d7, g7, rfl, rfl, rfl, rfl, HBz.out, HRF.out, HSX.out, HRN.out⟩
    exact AllReadyH.nil
  case rest =>
    obtain ⟨wz, B, bx, s2, x2, n2, c2, f2, y2, m2, d2, g2, rfl, rfl, rfl, rfl, HB, RF, SX, RN⟩ := hcut
    clear X0 X1 X2 X3 BK
    go_wp2_with fail
    go_at_call 24
    refine first12_c.mono ?_
    rintro e wa ⟨⟨⟨sm, xm, nm, cm, fm, ym, mm, dm, gm⟩, cam, ckm, ccm, Cm, ram, rkm, rcm, Rm⟩, rfl, hb, HM⟩
    replace HB := hid (HB.out.trans (hb.mono HB.out.size)); replace RF := hid (RF.out.below hb); replace SX := hid (SX.out.below hb); replace RN := hid (RN.out.below hb)
    clear hb
    go_wp2_with fail
    go_at_call 14
    refine (fCrossing_q (L := 8) HM.out k1_ok (by decide)).mono ?_
    rintro e wb ⟨hb, ⟨h9, _⟩ | ⟨_, _, rfl⟩ | ⟨_, h9, _⟩⟩
    · exact absurd rfl h9
    rotate_left
    · exact absurd k1_x h9
    have hbn := below_alloc (Below.refl wb.heap.size wb) (.cells #[.slice none 0 0, .slice none 0 0, .slice none 0 0, .slice none 0 0] 31)
    have hbb := hb.trans (hbn.mono hb.size)
    replace HB := hid (HB.out.trans (hbb.mono HB.out.size)); replace RF := hid (RF.out.below hbb); replace SX := hid (SX.out.below hbb); replace RN := hid (RN.out.below hbb)
    clear hb hbn hbb HM
    go_upto_region 5 with fail
    generalize wb.alloc (.cells #[.slice none 0 0, .slice none 0 0, .slice none 0 0, .slice none 0 0] 31) = w5 at *
    obtain ⟨b, o, ⟨s, x, n, c, f, y, m, d, g⟩, hb1, ⟨p0, p1, p2⟩, hr⟩ := RF.out 0 _ rfl
    cases hb1
    replace p0 : w5.cell? ⟨B, 0, none⟩ = some (.bool s) := p0
    replace p1 : w5.cell? ⟨B, 1, none⟩ = some (.slice x n c) := p1
    replace p2 : w5.cell? ⟨B, 2, none⟩ = some (.slice y m d) := p2
    have HR : Hid (Rn (KC 8) w5 s x n c f y m d g ((0 : Int) : Rat)) := hr
    have HV := hid RN.out
    clear hr RF RN
    have k0 := SX.out.x0
    have k1 := SX.out.x1
    have k2 := SX.out.x2
    clear SX
    have CD := hid (fun W => docOfQ_c (w := W) (z := 0) (by decide) (by decide))
    have CE := hid (fun W => docOfQ_c (w := W) (z := 1) (by decide) (by decide))
    unfold RatAns at CD CE
    have CS : Hid (∀ W s2 x2 n2 c2 f2 y2 m2 d2 g2, Below w5.heap.size w5 W → Rn 4 W s2 x2 n2 c2 f2 y2 m2 d2 g2 ((0 : Int) : Rat) → Calls Tryz.prog 21 #[.agg #[.bool s, .slice x n c, .slice y m d], .agg #[.bool s2, .slice x2 n2 c2, .slice y2 m2 d2]] W fun e w' => e = .returned (.bool true) ∧ Below W.heap.size W w') := fun W s2 x2 n2 c2 f2 y2 m2 d2 g2 hW h2 => rSameEq_c (HR.out.below hW) h2 (by decide) (by decide)
    have CT : Hid (∀ W s3 x3 n3 c3 f3 y3 m3 d3 g3, Below w5.heap.size w5 W → Rn 4 W s3 x3 n3 c3 f3 y3 m3 d3 g3 ((1 : Int) : Rat) → Calls Tryz.prog 21 #[.agg #[.bool s2, .slice x2 n2 c2, .slice y2 m2 d2], .agg #[.bool s3, .slice x3 n3 c3, .slice y3 m3 d3]] W fun e w' => e = .returned (.bool true) ∧ Below W.heap.size W w') := fun W s3 x3 n3 c3 f3 y3 m3 d3 g3 hW h2 => rSameEq_c (HV.out.below hW) h2 (by decide) (by decide)
    go_region_held3 (fun w' => w'.cell? ⟨B, 0, none⟩ = some (.bool s) ∧ w'.cell? ⟨B, 1, none⟩ = some (.slice x n c) ∧ w'.cell? ⟨B, 2, none⟩ = some (.slice y m d) ∧ w'.cell? ⟨bx, 0, none⟩ = some (.bool s2) ∧ w'.cell? ⟨bx, 1, none⟩ = some (.slice x2 n2 c2) ∧ w'.cell? ⟨bx, 2, none⟩ = some (.slice y2 m2 d2))
      (refine ⟨?_, ?_, ?_, ?_, ?_, ?_⟩ <;> repeat (with_reducible first | assumption | refine kCd ?_ | refine kCb (by assumption) ?_))
      (first
        | (have h9 := H5.out; clear h9; go_at_call 25; with_reducible refine (CE.out _).mono ?_; rintro e w8 ⟨s8, x8, n8, c8, f8, y8, m8, d8, g8, rfl, hb8, H8⟩; replace H8 := hid H8)
        | (go_at_call 25; with_reducible refine (CD.out _).mono ?_; rintro e w6 ⟨s6, x6, n6, c6, f6, y6, m6, d6, g6, rfl, hb6, H6⟩; replace H6 := hid H6)
        | (have h9 := H8.out; clear h9; go_at_call 21; with_reducible refine (CT.out _ s8 x8 n8 c8 f8 y8 m8 d8 g8 (by repeat (with_reducible first | assumption | exact Below.refl _ _ | refine Below.drew ?_ | refine kBa ?_ | refine kBb (by assumption) ?_)) (H8.out.below (by repeat (with_reducible first | assumption | exact Below.refl _ _ | refine Below.drew ?_ | refine kBa ?_ | refine kBb (by assumption) ?_)))).mono ?_; rintro e w9 ⟨rfl, hb9⟩)
        | (go_at_call 21; with_reducible refine (CS.out _ s6 x6 n6 c6 f6 y6 m6 d6 g6 (by repeat (with_reducible first | assumption | exact Below.refl _ _ | refine Below.drew ?_ | refine kBa ?_ | refine kBb (by assumption) ?_)) (H6.out.below (by repeat (with_reducible first | assumption | exact Below.refl _ _ | refine Below.drew ?_ | refine kBa ?_ | refine kBb (by assumption) ?_)))).mono ?_; rintro e w7 ⟨rfl, hb7⟩; have H5 := hid True.intro))
    all_goals
      have HB9 := hid (HB.out.trans ((show Below w5.heap.size w5 w9 from (by repeat (with_reducible first | assumption | exact Below.refl _ _ | refine Below.drew ?_ | refine kBa ?_ | refine kBb (by assumption) ?_))).mono HB.out.size))
      clear p0 p1 p2 k0 k1 k2 CD CS CE CT HR
      go_wp2
      go_ret
      exact ⟨by first | rfl | simp, HB9.out⟩
end Go.Proofs.YtedpomledbgpoaaGreat
namespace Go.Proofs.YtedpomledbgpoaaGreat
open Go.RowKit

end Go.Proofs.YtedpomledbgpoaaGreat
namespace Go.Proofs.YtedpomledbgpoaaGreat
open Go.RowKit

theorem Tq.of {K w w' ao l} (h : Tq K w ao l) (hb : l ≠ [] → ∀ b o s, ao = some ⟨b, o, s⟩ → b < w.heap.size → w'.heap[b]? = w.heap[b]?) (hk : Kp w w') : Tq K w' ao l := fun j a q hj => by
  obtain ⟨b, o, t, e, ⟨c0, c1, c2, c3⟩, h2⟩ := h j a q hj
  have := hb (fun e => by rw [e] at hj; simp at hj) b o none e (World.block_lt_of_cell? w _ c0)
  exact ⟨b, o, t, e, ⟨(World.cell?_of_block (a := ⟨b, o + j * 4, none⟩) this).trans c0, (World.cell?_of_block (a := ⟨b, o + j * 4 + 1, none⟩) this).trans c1, (World.cell?_of_block (a := ⟨b, o + j * 4 + 2, none⟩) this).trans c2, (World.cell?_of_block (a := ⟨b, o + j * 4 + 3, none⟩) this).trans c3⟩, h2.kp hk⟩
theorem Tq.lt {K w ao l} (h : Tq K w ao l) (hl : l ≠ []) : ∀ b o s, ao = some ⟨b, o, s⟩ → b < w.heap.size := fun b o s e => by
  match l, hl with
  | (a, q) :: r, _ =>
    obtain ⟨b', o', t, e', h4, _⟩ := h 0 a q rfl
    rw [e] at e'; cases e'
    exact World.block_lt_of_cell? w _ h4.x0
def FT (K base tk : Nat) (ts : List (Int × Rat)) (v : Value) (w : World) : Prop := ∃ aw cw, v = .slice aw tk cw ∧ (∀ b o s, aw = some ⟨b, o, s⟩ → base ≤ b) ∧ Tq K w aw ts
theorem FT.below {K base tk ts v w w'} (h : FT K base tk ts v w) (hb : Below w.heap.size w w') : FT K base tk ts v w' := by obtain ⟨aw, cw, h1, h2, h3⟩ := h; exact ⟨aw, cw, h1, h2, h3.below hb⟩
end Go.Proofs.YtedpomledbgpoaaGreat
namespace Go.Proofs.YtedpomledbgpoaaGreat
open Go.RowKit

theorem NmS.val {w : World} {t : Nm} {K : Nat} (h : NmS w t) (hf : nfB t = true) (hk : t.n ≤ K ∧ t.m ≤ K) : NmV K w t (nq t) := by
  obtain ⟨q, hq⟩ := Nm.rn h hf hk.1 hk.2
  rw [hq.nq]; exact hq
def cvOf (c : Lc) : CV := ⟨c.nm, nq c.cost, c.lo.i, nq c.lo.v, c.hi.i, nq c.hi.v⟩
def rvOf (r : Lr) : RV := ⟨r.nm, r.lo.i, nq r.lo.v, r.hi.i, nq r.hi.v, (List.range r.tk).map (fun p => (r.col p, nq (r.T p)))⟩
theorem range_at {α : Type} {f : Nat → α} {n j : Nat} {v : α} (h : ((List.range n).map f)[j]? = some v) : j < n ∧ v = f j := by
  have hlt : j < n := by have := (List.getElem?_eq_some_iff.1 h).1; simpa using this
  simp [hlt] at h
  exact ⟨hlt, h.symm⟩
theorem range_get {α : Type} {f : Nat → α} {n j : Nat} (h : j < n) : ((List.range n).map f)[j]? = some (f j) := by simp [h]
theorem bd_of {w : World} {a b : Ex} {K : Nat} (ha : NmS w a.v) (hb : NmS w b.v) (ka : a.v.n ≤ K ∧ a.v.m ≤ K) (kb : b.v.n ≤ K ∧ b.v.m ≤ K) (h : abB a b = true) : NmV K w a.v (nq a.v) ∧ NmV K w b.v (nq b.v) ∧ bdB a.i (nq a.v) b.i (nq b.v) = true := by
  obtain ⟨f1, f2, h1, h2⟩ := abB_ok h
  simp only [exF, efB, Bool.and_eq_true, Bool.or_eq_true, decide_eq_true_eq] at f1 f2
  have v1 : NmV K w a.v (nq a.v) := ha.val f1.1 ka
  have v2 : NmV K w b.v (nq b.v) := hb.val f2.1 kb
  refine ⟨v1, v2, ?_⟩
  simp only [bdB, Bool.and_eq_true, Bool.or_eq_true, decide_eq_true_eq]
  constructor
  · rcases f1.2 with h | ⟨h | h, h3⟩
    · exact .inl h
    · exact .inr ⟨h, (Rn.q_zero v1).2 h3⟩
    · exact absurd h h1
  · rcases f2.2 with h | ⟨h | h, h3⟩
    · exact .inl h
    · exact absurd h h2
    · exact .inr ⟨h, (Rn.q_zero v2).2 h3⟩
theorem ts_of {w : World} {col : Nat → Int} {T : Nat → Nm} {n K : Nat} : ∀ {r i : Nat} {last : Int}, tfr col T r i last = true → (∀ p, i ≤ p → p < i + r → col p < (n : Int)) → (∀ p, i ≤ p → p < i + r → NmV K w (T p) (nq (T p))) → tsB n last ((List.range' i r).map (fun p => (col p, nq (T p)))) = true
  | 0, i, last, _, _, _ => rfl
  | r + 1, i, last, h, hc, hv => by
    simp only [tfr, Bool.and_eq_true, decide_eq_true_eq] at h
    rw [List.range'_succ, List.map_cons]
    simp only [tsB, Bool.and_eq_true, decide_eq_true_eq]
    refine ⟨h.1, hc i (by omega) (by omega), fun e => ?_, ts_of h.2.2.2 (fun p a b => hc p (by omega) (by omega)) (fun p a b => hv p (by omega) (by omega))⟩
    have := (Rn.q_zero (hv i (by omega) (by omega))).1 e
    omega
/-- A model's values. -/
def csOf (M : Mo) : List CV := (List.range M.ck).map (fun j => cvOf (M.C j))
def rsOf (M : Mo) : List RV := (List.range M.rk).map (fun j => rvOf (M.R j))
/-- A model that is well formed, by its values. -/
theorem MoR.movC {w M K} (h : MoR w M) (hk : MoK K M) (he : chkE M = 0) : MoV K w M (nq M.off) (csOf M) (rsOf M) ∧ mvOk (csOf M) (rsOf M) = true := by
  obtain ⟨l1, l2, hF, n1, n2, t1, t2, hAl⟩ := chkE_ok he
  simp only [moF, Bool.and_eq_true] at hF
  obtain ⟨hF0, hFC, hFR⟩ := hF
  have hcol : ∀ j, j < M.ck → ColV K w (M.C j) (cvOf (M.C j)) ∧ bdB (cvOf (M.C j)).li (cvOf (M.C j)).lq (cvOf (M.C j)).hi (cvOf (M.C j)).hq = true := fun j hj => by
    obtain ⟨_, _, _, _, hn⟩ := h.cls j hj
    obtain ⟨f1, f2⟩ := clsB_at hFC j (by omega) (by omega)
    have k := hk.c j hj
    obtain ⟨v1, v2, hb⟩ := bd_of hn.lo hn.hi k.2.1 k.2.2 f2
    exact ⟨⟨rfl, hn.cost.val f1 k.1, rfl, v1, rfl, v2⟩, hb⟩
  have hrow : ∀ j, j < M.rk → RowV K w (M.R j) (rvOf (M.R j)) ∧ bdB (rvOf (M.R j)).li (rvOf (M.R j)).lq (rvOf (M.R j)).hi (rvOf (M.R j)).hq = true ∧ tsB M.ck (-1) (rvOf (M.R j)).ts = true := fun j hj => by
    obtain ⟨_, _, _, _, hn⟩ := h.rls j hj
    obtain ⟨f1, f2⟩ := rlsB_at hFR j (by omega) (by omega)
    have k := hk.r j hj
    obtain ⟨v1, v2, hb⟩ := bd_of hn.lo hn.hi k.1 k.2.1 f1
    have hall := (tfr_all f2).1
    have hv : ∀ p, p < (M.R j).tk → NmV K w ((M.R j).T p) (nq ((M.R j).T p)) := fun p hp => by
      obtain ⟨_, _, _, _, hr⟩ := hn.tl p hp
      exact NmS.val hr (hall p (by omega) (by omega)).2.1 (k.2.2.2 p hp)
    refine ⟨⟨rfl, rfl, v1, rfl, v2, by simp [rvOf], fun p z q e => ?_⟩, hb, ?_⟩
    · obtain ⟨hp, e'⟩ := range_at e
      obtain ⟨b, o, ea, c4, _⟩ := hn.tl p hp
      cases e'
      exact ⟨rfl, hv p hp, b, o, ea, c4⟩
    · show tsB M.ck (-1) ((List.range (M.R j).tk).map _) = true
      rw [List.range_eq_range']
      exact ts_of f2 (fun p _ hp => (cols_at f2 (alB_at hAl j (by omega) (by omega)) p (by omega)).2) (fun p _ hp => hv p (by omega))
  unfold csOf rsOf
  refine ⟨⟨h.off.val hF0 hk.off, by simp, by simp, fun j v e => ?_, fun j v e => ?_⟩, ?_⟩
  · obtain ⟨hj, rfl⟩ := range_at e
    obtain ⟨b, o, ea, hc, _⟩ := h.cls j hj
    exact ⟨⟨b, o, ea, hc⟩, (hcol j hj).1⟩
  · obtain ⟨hj, rfl⟩ := range_at e
    obtain ⟨b, o, ea, hc, _⟩ := h.rls j hj
    exact ⟨⟨b, o, ea, hc⟩, (hrow j hj).1⟩
  · have ec : ∀ j, j < M.ck → nmC ((List.range M.ck).map (fun j => cvOf (M.C j))) j = (M.C j).nm := fun j hj => by unfold nmC; rw [range_get hj]; rfl
    have er : ∀ j, j < M.rk → nmR ((List.range M.rk).map (fun j => rvOf (M.R j))) j = (M.R j).nm := fun j hj => by unfold nmR; rw [range_get hj]; rfl
    simp only [mvOk, Bool.and_eq_true, decide_eq_true_eq, List.all_eq_true, List.length_map, List.length_range, Bool.not_eq_true']
    refine ⟨l1, l2, fun v hv => ?_, fun v hv => ?_, ?_, ?_, ?_, ?_⟩
    · obtain ⟨j, hj, rfl⟩ := List.mem_map.1 hv
      exact (hcol j (List.mem_range.1 hj)).2
    · obtain ⟨j, hj, rfl⟩ := List.mem_map.1 hv
      have := hrow j (List.mem_range.1 hj)
      refine ⟨this.2.1, this.2.2, ?_⟩
      have h3 := (hk.r j (List.mem_range.1 hj)).2.2.1
      simp [rvOf]; omega
    · rw [nms_congr (S' := fun j => (M.C j).nm) (fun j _ hj => ec j (by omega))]; exact n1
    · rw [nms_congr (S' := fun j => (M.R j).nm) (fun j _ hj => er j (by omega))]; exact n2
    · rw [twr_congr (S' := fun j => (M.C j).nm) (fun j hj => ec j (by omega))]; exact t1
    · rw [twr_congr (S' := fun j => (M.R j).nm) (fun j hj => er j (by omega))]; exact t2
theorem FnT.of {K w} {e : Ex} {i : Int} {q : Rat} (h : QnT K w e.v q) (hi : e.i = i) (hb : i = 0 ∨ (i = -1 ∨ i = 1) ∧ q = 0) : Fn w e.i e.v.s e.v.x e.v.n e.v.f e.v.y e.v.m e.v.g q := ⟨h.2.2, by rw [hi]; exact hb⟩

end Go.Proofs.YtedpomledbgpoaaGreat
namespace Go.Proofs.YtedpomledbgpoaaGreat
open Go.RowKit

/-- What a law of models begins with: the parameter's box, and whether the model is light. -/
theorem twin_w {w : World} {M : Mo} {K : Nat} (hX : MoX w M) (hN : MoN M) (hk : M.ck ≤ 64 → M.rk ≤ 64 → MoK K M) (hK : K ≤ 65536) : Calls Tryz.prog 10 #[M.val] w fun e w' => ∃ M' : Mo, e = .returned M'.val ∧ Below w.heap.size w w' ∧ Sm M M' ∧ MoW w' M' ∧ MoX w' M' ∧ (M'.ck ≤ 64 → M'.rk ≤ 64 → MoK K M') :=
  (mTwin_c hX).mono fun e w' ⟨M', h1, h2, h3, h4⟩ => ⟨M', h1, h2, h3, fun a b => h4.mor (h3.mon hN) (h3.mok (hk (by rw [← h3.ck]; exact a) (by rw [← h3.rk]; exact b))) hK a b, h4, fun a b => h3.mok (hk (by rw [← h3.ck]; exact a) (by rw [← h3.rk]; exact b))⟩
theorem lgM_k {K : Nat} {M : Mo} (h : lgM K M = true) : M.ck ≤ 64 → M.rk ≤ 64 → MoK K M := fun a b => lgM_at h a b
end Go.Proofs.YtedpomledbgpoaaGreat
namespace Go.Proofs.YtedpomledbgpoaaGreat
open Go.RowKit

end Go.Proofs.YtedpomledbgpoaaGreat
namespace Go.Proofs.YtedpomledbgpoaaGreat
open Go.RowKit

theorem El.below {w w' ao k E} (h : El w ao k E) (hb : Below w.heap.size w w') : El w' ao k E := fun j hj => by
  obtain ⟨b, o, e, h1⟩ := h j hj
  exact ⟨b, o, e, kCb hb h1⟩
end Go.Proofs.YtedpomledbgpoaaGreat
namespace Go.Proofs.YtedpomledbgpoaaGreat
open Go.RowKit

theorem Sn.trans {a b c : Nm} (h : Sn a b) (k : Sn b c) : Sn a c := by
  obtain ⟨h1, h2, h3, h4, h5⟩ := h
  obtain ⟨k1, k2, k3, k4, k5⟩ := k
  exact ⟨k1.trans h1, k2.trans h2, k3.trans h3, k4.trans h4, k5.trans h5⟩
end Go.Proofs.YtedpomledbgpoaaGreat
namespace Go.Proofs.YtedpomledbgpoaaGreat
open Go.RowKit

theorem Sn.nq {t t' : Nm} (h : Sn t t') : nq t' = nq t := by
  obtain ⟨h1, h2, h3, h4, h5⟩ := h
  unfold Go.Proofs.YtedpomledbgpoaaGreat.nq
  rw [h1, h2, h3, h4, h5]
theorem Sm.csOf {M M' : Mo} (h : Sm M M') : csOf M' = csOf M := by
  unfold Go.Proofs.YtedpomledbgpoaaGreat.csOf
  rw [h.ck]
  refine List.map_congr_left (fun j hj => ?_)
  have p := h.C j (List.mem_range.1 hj)
  unfold cvOf
  rw [p.nm, p.cost.nq, p.li, p.lo.nq, p.hi, p.hv.nq]
theorem Sm.rsOf {M M' : Mo} (h : Sm M M') : rsOf M' = rsOf M := by
  unfold Go.Proofs.YtedpomledbgpoaaGreat.rsOf
  rw [h.rk]
  refine List.map_congr_left (fun j hj => ?_)
  have p := h.R j (List.mem_range.1 hj)
  unfold rvOf
  rw [p.nm, p.li, p.lo.nq, p.hi, p.hv.nq, p.tk, p.col]
  congr 1
  exact List.map_congr_left (fun q hq => by rw [(p.T q (List.mem_range.1 hq)).nq])
/-- A list's numbers. -/
def psOf (k : Nat) (X : Nat → Nm) : List Rat := (List.range k).map (fun j => nq (X j))
theorem psOf_len (k : Nat) (X : Nat → Nm) : (psOf k X).length = k := by simp [psOf]
theorem psOf_sn {k : Nat} {X X' : Nat → Nm} (h : ∀ j, j < k → Sn (X j) (X' j)) : psOf k X' = psOf k X := List.map_congr_left (fun j hj => (h j (List.mem_range.1 hj)).nq)
theorem Rl.rfC {w : World} {ao : Option Addr} {k K : Nat} {X : Nat → Nm} (h : Rl w ao k X) (hf : afB k X = true) (hk : ∀ j, j < k → (X j).n ≤ K ∧ (X j).m ≤ K) : Rf K w ao (psOf k X) := fun j q e => by
  obtain ⟨hj, rfl⟩ := range_at e
  obtain ⟨b, o, h1, h2, h3⟩ := h j hj
  exact ⟨b, o, X j, h1, h2, NmS.val h3 (afr_all hf j (by omega) (by omega)) (hk j hj)⟩
theorem psum_acc : ∀ (p : List Rat) (a : Rat), psum p a = a + psum p 0
  | [], a => by show a = a + 0; grind
  | q :: p, a => by
    simp only [psum]
    rw [psum_acc p (a + q), psum_acc p (0 + q)]
    grind
theorem psum_cons (q : Rat) (p : List Rat) : psum (q :: p) 0 = q + psum p 0 := by
  simp only [psum]
  rw [psum_acc]; grind
end Go.Proofs.YtedpomledbgpoaaGreat
namespace Go.Proofs.YtedpomledbgpoaaGreat
open Go.RowKit

/-- Are a list's numbers of at most K limbs, and not too many? -/
def lgL (K k : Nat) (X : Nat → Nm) : Bool := decide (k ≤ 300) && nlg K X k 0
end Go.Proofs.YtedpomledbgpoaaGreat
namespace Go.Proofs.YtedpomledbgpoaaGreat
open Go.RowKit

theorem MoK.up {K L : Nat} {M : Mo} (h : MoK K M) (hL : K ≤ L) : MoK L M := by
  have e : ∀ {a b : Nat}, a ≤ K ∧ b ≤ K → a ≤ L ∧ b ≤ L := fun p => ⟨Nat.le_trans p.1 hL, Nat.le_trans p.2 hL⟩
  exact ⟨e h.off, fun j hj => ⟨e (h.c j hj).1, e (h.c j hj).2.1, e (h.c j hj).2.2⟩, fun j hj => ⟨e (h.r j hj).1, e (h.r j hj).2.1, (h.r j hj).2.2.1, fun p hp => e ((h.r j hj).2.2.2 p hp)⟩⟩
theorem Rf.cut {K L : Nat} {w : World} {ao : Option Addr} {p : List Rat} (h : Rf K w ao p) (hp : ∀ q, q ∈ p → Lo L q) : Rf L w ao p := fun j q hj => by
  obtain ⟨b, o, t, e, h1, h2⟩ := h j q hj
  exact ⟨b, o, t, e, h1, h2.cut (hp q (List.mem_of_getElem? hj))⟩
theorem Rf.loM {K : Nat} {w : World} {ao : Option Addr} {p : List Rat} (h : Rf K w ao p) : ∀ q, q ∈ p → Lo K q := fun q hq => by
  obtain ⟨j, hj⟩ := List.getElem?_of_mem hq
  obtain ⟨b, o, t, e, h1, h2⟩ := h j q hj
  exact h2.lo h2.ln h2.ld
theorem pckE_two {M : Mo} {k : Nat} {X : Nat → Nm} (h : pckE M k X = 0) : chkE M = 0 ∧ afB k X = true ∧ k = M.ck := by
  obtain ⟨h1, h2⟩ := two_zero h
  refine ⟨h1, ?_⟩
  unfold pnE at h2
  by_cases a : afB k X = true
  · rw [if_pos a] at h2
    by_cases b : k = M.ck
    · exact ⟨a, b⟩
    · rw [if_neg (by omega)] at h2; cases h2
  · rw [if_neg a] at h2; cases h2
theorem csOf_len (M : Mo) : (csOf M).length = M.ck := by simp [csOf]
/-- A list's twin, the list's numbers being of at most 6 limbs. -/
def Tx (w : World) (ao : Option Addr) (k : Nat) (X X' : Nat → Nm) : Prop := Rl w ao k X' ∧ ∀ j, j < k → Sn (X j) (X' j)
theorem Tx.below {w w' ao k X X'} (h : Tx w ao k X X') (hb : Below w.heap.size w w') : Tx w' ao k X X' := ⟨h.1.below hb, h.2⟩
/-- A list that is short, its numbers too. -/
def Sh (k : Nat) (X : Nat → Nm) : Prop := k ≤ 300 ∧ ∀ j, j < k → (X j).n ≤ 6 ∧ (X j).m ≤ 6
theorem Tx.val {w ao k X X'} (h : Tx w ao k X X') (hs : Sh k X) (ha : afB k X = true) : Rf 6 w ao (psOf k X) := by
  rw [← psOf_sn h.2]
  refine h.1.rfC ?_ (fun j hj => by rw [(h.2 j hj).2.1, (h.2 j hj).2.2.2.1]; exact hs.2 j hj)
  exact (afr_sn (fun j _ b => h.2 j (by omega))).trans ha
end Go.Proofs.YtedpomledbgpoaaGreat
namespace Go.Proofs.YtedpomledbgpoaaGreat
open Go.RowKit

theorem crl_nil {B : Nat → Bool} : ∀ {n : Nat}, (crl B n).length = 0 ↔ ∀ j, j < n → B j = false
  | 0 => ⟨fun _ j hj => by omega, fun _ => rfl⟩
  | n + 1 => by
    have ih := crl_nil (B := B) (n := n)
    cases e : B n with
    | true =>
      rw [crl_yes e]
      refine ⟨fun h => by simp at h, fun h => ?_⟩
      rw [h n (by omega)] at e; cases e
    | false =>
      rw [crl_no e, ih]
      refine ⟨fun h j hj => ?_, fun h j hj => h j (by omega)⟩
      by_cases g : j = n
      · rw [g]; exact e
      · exact h j (by omega)
end Go.Proofs.YtedpomledbgpoaaGreat
namespace Go.Proofs.YtedpomledbgpoaaGreat
open Go.RowKit

end Go.Proofs.YtedpomledbgpoaaGreat
namespace Go.Proofs.YtedpomledbgpoaaGreat
open Go.RowKit

/-- A list that is short, its numbers too. -/
def ShK (K k : Nat) (X : Nat → Nm) : Prop := k ≤ 300 ∧ ∀ j, j < k → (X j).n ≤ K ∧ (X j).m ≤ K
theorem lgL_shK {K k : Nat} {X : Nat → Nm} (h : lgL K k X = true) : ShK K k X := by
  simp only [lgL, Bool.and_eq_true, decide_eq_true_eq] at h
  exact ⟨h.1, fun j hj => nlg_all h.2 j (by omega) (by omega)⟩
/-- A model's twin, the model's numbers being of at most K limbs. -/
def TmK (K : Nat) (w : World) (M M' : Mo) : Prop := Sm M M' ∧ MoW w M' ∧ MoX w M' ∧ (M'.ck ≤ 64 → M'.rk ≤ 64 → MoK K M')
theorem TmK.below {K w w' M M'} (h : TmK K w M M') (hb : Below w.heap.size w w') : TmK K w' M M' := ⟨h.1, h.2.1.below hb, h.2.2.1.below hb, h.2.2.2⟩
theorem TmK.valL {K w M M'} (L : Nat) (hL : K ≤ L) (hK : K ≤ 100) (h : TmK K w M M') (hN : MoN M) (he : chkE M = 0) : MoV L w M' (nq M.off) (csOf M) (rsOf M) ∧ mvOk (csOf M) (rsOf M) = true := by
  obtain ⟨s, hw, hx, hk⟩ := h
  have he' : chkE M' = 0 := s.chk.trans he
  obtain ⟨l1, l2, _⟩ := chkE_ok he'
  have k6 := hk l1 l2
  have := (hx.mor (s.mon hN) k6 (by omega) l1 l2).movC (k6.up hL) he'
  rw [s.csOf, s.rsOf, s.off.nq] at this
  exact this
theorem Tx.valK {K w ao k X X'} (h : Tx w ao k X X') (hs : ShK K k X) (ha : afB k X = true) : Rf K w ao (psOf k X) := by
  rw [← psOf_sn h.2]
  refine h.1.rfC ?_ (fun j hj => by rw [(h.2 j hj).2.1, (h.2 j hj).2.2.2.1]; exact hs.2 j hj)
  exact (afr_sn (fun j _ b => h.2 j (by omega))).trans ha
theorem pckE_twK {K w ao k X X' M M'} (h : TmK K w M M') (hx : Tx w ao k X X') : pckE M' k X' = pckE M k X := by
  unfold pckE
  rw [h.1.chk, h.1.ck]
  unfold pnE
  rw [show afB k X' = afB k X from afr_sn (fun j _ b => hx.2 j (by omega))]
theorem tw_hvK {K w ao k X X' M M'} (L : Nat) (hL : K ≤ L) (hK : K ≤ 100) (h : TmK K w M M') (hN : MoN M) (hx : Tx w ao k X X') (hs : ShK K k X) (he : pckE M k X = 0) : MoV L w M' (nq M.off) (csOf M) (rsOf M) ∧ mvOk (csOf M) (rsOf M) = true ∧ Rf L w ao (psOf k X) ∧ (psOf k X).length = k ∧ k = (csOf M).length := by
  obtain ⟨h1, h2, h3⟩ := pckE_two he
  obtain ⟨a, b⟩ := h.valL L hL hK hN h1
  exact ⟨a, b, (hx.valK hs h2).mono hL, psOf_len _ _, by rw [csOf_len]; exact h3⟩
theorem twinTmK_c {K : Nat} {w : World} {M : Mo} (hX : MoX w M) (hN : MoN M) (hk : M.ck ≤ 64 → M.rk ≤ 64 → MoK K M) (hK : K ≤ 100) : Calls Tryz.prog 10 #[M.val] w fun e w' => ∃ (vm : Value) (M' : Mo), e = .returned vm ∧ Below w.heap.size w w' ∧ Hid (vm = M'.val ∧ TmK K w' M M') :=
  (twin_w (K := K) hX hN hk (by omega)).mono fun e w' ⟨M', h1, h2, h3, h4, h5, h6⟩ => ⟨M'.val, M', h1, h2, hid ⟨rfl, h3, h4, h5, h6⟩⟩
theorem twinsTxK_c {K : Nat} {w : World} {ao : Option Addr} {k cap : Nat} {X : Nat → Nm} (h : Rl w ao k X) (hs : ShK K k X) (hK : K ≤ 100) : Calls Tryz.prog 13 #[.slice ao k cap] w fun e w' => ∃ (a : Option Addr) (c : Nat) (X' : Nat → Nm), e = .returned (.slice a k c) ∧ Below w.heap.size w w' ∧ (k ≤ c ∧ c ≤ 9223372036854775807) ∧ Hid (Tx w' a k X X') :=
  (twins_c h (by have := hs.1; omega) (fun j hj => by have := hs.2 j hj; omega)).mono fun e w' ⟨a, c, X', h1, h2, h3, h4⟩ => ⟨a, c, X', h1, h2, h3, hid h4.out⟩
end Go.Proofs.YtedpomledbgpoaaGreat
namespace Go.Proofs.YtedpomledbgpoaaGreat
open Go.RowKit

set_option maxRecDepth 100000 in
set_option maxHeartbeats 4000000 in
theorem light12_c {w : World} {a0 a1 a2 a3 : Option Addr} {k0 c0 k1 c1 k2 c2 k3 c3 : Nat} {X0 X1 X2 X3 : Nat → Nm} (K : Nat) (h0 : Rr w a0 k0 X0) (h1 : Rr w a1 k1 X1) (h2 : Rr w a2 k2 X2) (h3 : Rr w a3 k3 X3) (b0 : k0 ≤ 9223372036854775807) (b1 : k1 ≤ 9223372036854775807) (b2 : k2 ≤ 9223372036854775807) (b3 : k3 ≤ 9223372036854775807) :
    Calls Tryz.prog 7 #[.agg #[.slice a0 k0 c0, .slice a1 k1 c1, .slice a2 k2 c2, .slice a3 k3 c3], .int .i64 K] w fun e w' => e = .returned (.bool (lgL K k0 X0 && (lgL K k1 X1 && (lgL K k2 X2 && lgL K k3 X3)))) ∧ Below w.heap.size w w' := by
  have C0 : Hid (∀ W, Below w.heap.size w W → Calls Tryz.prog 8 #[.slice a0 k0 c0, .int .i64 K] W fun e w' => e = .returned (.bool (lgL K k0 X0)) ∧ Below W.heap.size W w') := fun W hW => rLights_c K (h0.below hW) b0
  have C1 : Hid (∀ W, Below w.heap.size w W → Calls Tryz.prog 8 #[.slice a1 k1 c1, .int .i64 K] W fun e w' => e = .returned (.bool (lgL K k1 X1)) ∧ Below W.heap.size W w') := fun W hW => rLights_c K (h1.below hW) b1
  have C2 : Hid (∀ W, Below w.heap.size w W → Calls Tryz.prog 8 #[.slice a2 k2 c2, .int .i64 K] W fun e w' => e = .returned (.bool (lgL K k2 X2)) ∧ Below W.heap.size W w') := fun W hW => rLights_c K (h2.below hW) b2
  have C3 : Hid (∀ W, Below w.heap.size w W → Calls Tryz.prog 8 #[.slice a3 k3 c3, .int .i64 K] W fun e w' => e = .returned (.bool (lgL K k3 X3)) ∧ Below W.heap.size W w') := fun W hW => rLights_c K (h3.below hW) b3
  obtain ⟨p0, hp0⟩ : ∃ p, lgL K k0 X0 = p := ⟨_, rfl⟩
  rw [hp0] at C0 ⊢
  obtain ⟨p1, hp1⟩ : ∃ p, lgL K k1 X1 = p := ⟨_, rfl⟩
  rw [hp1] at C1 ⊢
  obtain ⟨p2, hp2⟩ : ∃ p, lgL K k2 X2 = p := ⟨_, rfl⟩
  rw [hp2] at C2 ⊢
  obtain ⟨p3, hp3⟩ : ∃ p, lgL K k3 X3 = p := ⟨_, rfl⟩
  rw [hp3] at C3 ⊢
  clear h0 h1 h2 h3 hp0 hp1 hp2 hp3
  have BK : Hid (Bk (w.alloc (.cells #[.slice a0 k0 c0, .slice a1 k1 c1, .slice a2 k2 c2, .slice a3 k3 c3] 31)) w.heap.size [.slice a0 k0 c0, .slice a1 k1 c1, .slice a2 k2 c2, .slice a3 k3 c3] 31) := bk_new w [.slice a0 k0 c0, .slice a1 k1 c1, .slice a2 k2 c2, .slice a3 k3 c3] 31
  have HB := hid (below_alloc (Below.refl w.heap.size w) (.cells #[.slice a0 k0 c0, .slice a1 k1 c1, .slice a2 k2 c2, .slice a3 k3 c3] 31))
  go_enter Tryz.func7, Tryz.ntmps7
  have t0 := BK.out.cell (j := 0) rfl
  go_wp2_with fail
  clear t0
  generalize (w.alloc (.cells #[.slice a0 k0 c0, .slice a1 k1 c1, .slice a2 k2 c2, .slice a3 k3 c3] 31)) = w0 at *
  refine (C0.out _ HB.out).mono ?_
  rintro e v0 ⟨rfl, hb⟩
  replace HB := hid (HB.out.trans (hb.mono HB.out.size)); replace BK := hid (BK.out.below hb)
  clear hb
  cases p0
  · go_wp2
    go_ret
    exact ⟨by simp, HB.out⟩
  have t1 := BK.out.cell (j := 1) rfl
  go_wp2_with fail
  clear t1
  refine (C1.out _ HB.out).mono ?_
  rintro e v1 ⟨rfl, hb⟩
  replace HB := hid (HB.out.trans (hb.mono HB.out.size)); replace BK := hid (BK.out.below hb)
  clear hb
  cases p1
  · go_wp2
    go_ret
    exact ⟨by simp, HB.out⟩
  have t2 := BK.out.cell (j := 2) rfl
  go_wp2_with fail
  clear t2
  refine (C2.out _ HB.out).mono ?_
  rintro e v2 ⟨rfl, hb⟩
  replace HB := hid (HB.out.trans (hb.mono HB.out.size)); replace BK := hid (BK.out.below hb)
  clear hb
  cases p2
  · go_wp2
    go_ret
    exact ⟨by simp, HB.out⟩
  have t3 := BK.out.cell (j := 3) rfl
  go_wp2_with fail
  clear t3
  refine (C3.out _ HB.out).mono ?_
  rintro e v3 ⟨rfl, hb⟩
  replace HB := hid (HB.out.trans (hb.mono HB.out.size)); replace BK := hid (BK.out.below hb)
  clear hb
  go_wp2
  go_ret
  exact ⟨by simp, HB.out⟩
/-- Twins of a certificate's lists. -/
structure T4 (w : World) (b0 b1 b2 b3 : Option Addr) (k0 : Nat) (X0 Y0 : Nat → Nm) (k1 : Nat) (X1 Y1 : Nat → Nm) (k2 : Nat) (X2 Y2 : Nat → Nm) (k3 : Nat) (X3 Y3 : Nat → Nm) : Prop where
  t0 : Tx w b0 k0 X0 Y0
  t1 : Tx w b1 k1 X1 Y1
  t2 : Tx w b2 k2 X2 Y2
  t3 : Tx w b3 k3 X3 Y3
theorem T4.below {w w' b0 b1 b2 b3 k0 X0 Y0 k1 X1 Y1 k2 X2 Y2 k3 X3 Y3} (h : T4 w b0 b1 b2 b3 k0 X0 Y0 k1 X1 Y1 k2 X2 Y2 k3 X3 Y3) (hb : Below w.heap.size w w') : T4 w' b0 b1 b2 b3 k0 X0 Y0 k1 X1 Y1 k2 X2 Y2 k3 X3 Y3 := ⟨h.t0.below hb, h.t1.below hb, h.t2.below hb, h.t3.below hb⟩
set_option maxRecDepth 100000 in
set_option maxHeartbeats 8000000 in
theorem twin12_c {w : World} {K : Nat} {a0 a1 a2 a3 : Option Addr} {k0 c0 k1 c1 k2 c2 k3 c3 : Nat} {X0 X1 X2 X3 : Nat → Nm} (h0 : Rl w a0 k0 X0) (h1 : Rl w a1 k1 X1) (h2 : Rl w a2 k2 X2) (h3 : Rl w a3 k3 X3) (s0 : ShK K k0 X0) (s1 : ShK K k1 X1) (s2 : ShK K k2 X2) (s3 : ShK K k3 X3) (hK : K ≤ 100) :
    Calls Tryz.prog 11 #[.agg #[.slice a0 k0 c0, .slice a1 k1 c1, .slice a2 k2 c2, .slice a3 k3 c3]] w fun e w' => ∃ b0 d0 Y0 b1 d1 Y1 b2 d2 Y2 b3 d3 Y3, e = .returned (.agg #[.slice b0 k0 d0, .slice b1 k1 d1, .slice b2 k2 d2, .slice b3 k3 d3]) ∧ Below w.heap.size w w' ∧ Hid (T4 w' b0 b1 b2 b3 k0 X0 Y0 k1 X1 Y1 k2 X2 Y2 k3 X3 Y3) := by
  have C0 := hid (fun W (hW : Below w.heap.size w W) => twinsTxK_c (cap := c0) (h0.below hW) s0 hK)
  have C1 := hid (fun W (hW : Below w.heap.size w W) => twinsTxK_c (cap := c1) (h1.below hW) s1 hK)
  have C2 := hid (fun W (hW : Below w.heap.size w W) => twinsTxK_c (cap := c2) (h2.below hW) s2 hK)
  have C3 := hid (fun W (hW : Below w.heap.size w W) => twinsTxK_c (cap := c3) (h3.below hW) s3 hK)
  clear h0 h1 h2 h3
  generalize hP : (fun (e : Ending) (w' : World) => ∃ b0 d0 Y0 b1 d1 Y1 b2 d2 Y2 b3 d3 Y3, e = .returned (.agg #[.slice b0 k0 d0, .slice b1 k1 d1, .slice b2 k2 d2, .slice b3 k3 d3]) ∧ Below w.heap.size w w' ∧ Hid (T4 w' b0 b1 b2 b3 k0 X0 Y0 k1 X1 Y1 k2 X2 Y2 k3 X3 Y3)) = P
  have HA : Hid (∀ b0 d0 Y0 b1 d1 Y1 b2 d2 Y2 b3 d3 Y3 w', Below w.heap.size w w' → T4 w' b0 b1 b2 b3 k0 X0 Y0 k1 X1 Y1 k2 X2 Y2 k3 X3 Y3 → P (.returned (.agg #[.slice b0 k0 d0, .slice b1 k1 d1, .slice b2 k2 d2, .slice b3 k3 d3])) w') := by subst hP; exact fun b0 d0 Y0 b1 d1 Y1 b2 d2 Y2 b3 d3 Y3 w' x y => ⟨b0, d0, Y0, b1, d1, Y1, b2, d2, Y2, b3, d3, Y3, rfl, x, hid y⟩
  clear hP
  have hb := below_alloc (below_alloc (Below.refl w.heap.size w) (.cells #[.slice a0 k0 c0, .slice a1 k1 c1, .slice a2 k2 c2, .slice a3 k3 c3] 31)) (.cells #[.slice none 0 0, .slice none 0 0, .slice none 0 0, .slice none 0 0] 31)
  have BK : Hid (Bk ((w.alloc (.cells #[.slice a0 k0 c0, .slice a1 k1 c1, .slice a2 k2 c2, .slice a3 k3 c3] 31)).alloc (.cells #[.slice none 0 0, .slice none 0 0, .slice none 0 0, .slice none 0 0] 31)) w.heap.size [.slice a0 k0 c0, .slice a1 k1 c1, .slice a2 k2 c2, .slice a3 k3 c3] 31) := (bk_new w [.slice a0 k0 c0, .slice a1 k1 c1, .slice a2 k2 c2, .slice a3 k3 c3] 31).below (below_alloc (Below.refl _ _) _)
  have BR : Hid (Bk ((w.alloc (.cells #[.slice a0 k0 c0, .slice a1 k1 c1, .slice a2 k2 c2, .slice a3 k3 c3] 31)).alloc (.cells #[.slice none 0 0, .slice none 0 0, .slice none 0 0, .slice none 0 0] 31)) (w.heap.size + 1) [.slice none 0 0, .slice none 0 0, .slice none 0 0, .slice none 0 0] 31) := by
    have := bk_new (w.alloc (.cells #[.slice a0 k0 c0, .slice a1 k1 c1, .slice a2 k2 c2, .slice a3 k3 c3] 31)) [.slice none 0 0, .slice none 0 0, .slice none 0 0, .slice none 0 0] 31
    rw [size_alloc1] at this; exact this
  have HB := hid hb
  clear hb
  go_enter Tryz.func11, Tryz.ntmps11
  go_upto_region 1 with fail
  generalize ((w.alloc (.cells #[.slice a0 k0 c0, .slice a1 k1 c1, .slice a2 k2 c2, .slice a3 k3 c3] 31)).alloc (.cells #[.slice none 0 0, .slice none 0 0, .slice none 0 0, .slice none 0 0] 31)) = w0 at *
  have r0 := BK.out.cell (j := 0) rfl
  have r1 := BK.out.cell (j := 1) rfl
  have r2 := BK.out.cell (j := 2) rfl
  have r3 := BK.out.cell (j := 3) rfl
  refine wp_region_phase (S := (fun w' => w'.cell? ⟨w.heap.size, 0, none⟩ = some (.slice a0 k0 c0) ∧ w'.cell? ⟨w.heap.size, 1, none⟩ = some (.slice a1 k1 c1) ∧ w'.cell? ⟨w.heap.size, 2, none⟩ = some (.slice a2 k2 c2) ∧ w'.cell? ⟨w.heap.size, 3, none⟩ = some (.slice a3 k3 c3))) 13 (by kernel_rfl) ⟨kCd r0, kCd r1, kCd r2, kCd r3⟩ (fun hHeld => ?_)
  have hbd := Below.drew (Below.refl w0.heap.size w0)
  replace HB := hid (HB.out.trans (hbd.mono HB.out.size)); replace BR := hid (BR.out.below hbd)
  clear hbd r0 r1 r2 r3 BK
  generalize w0.drew = u0 at *
  refine wpAnyP_skim (i := 0) (v := ?_) rfl (by kernel_rfl) (by kernel_rfl) (by kernel_rfl) (by kernel_rfl) (fun _ _ _ h => h) (Or.inl ⟨by rfl, ?_⟩) (fun _ => by assumption) ?_
  rotate_left
  (focus (intro w0 hSw; go_simp <;> with_reducible rfl))
  simp only [List.getElem_toArray, List.getElem_cons_zero, Act.put, List.setIfInBounds_toArray, List.set_cons_zero, List.set_cons_succ]
  refine wpAnyP_takeA (i := 1) (v := ?_) rfl (by kernel_rfl) (by kernel_rfl) (by kernel_rfl) (by kernel_rfl) (by kernel_rfl) (by kernel_rfl) (fun _ _ _ h => h) (Or.inl ⟨by rfl, ?_⟩) (by assumption) ?_
  rotate_left
  (focus (intro w0 hSw; (try dsimp only at hSw); go_simp <;> with_reducible rfl))
  simp only [List.getElem_toArray, List.getElem_cons_succ, List.getElem_cons_zero, Act.put, List.setIfInBounds_toArray, List.set_cons_zero, List.set_cons_succ]
  refine wpAnyP_skim (i := 3) (v := ?_) rfl (by kernel_rfl) (by kernel_rfl) (by kernel_rfl) (by kernel_rfl) (fun _ _ _ h => h) (Or.inl ⟨by rfl, ?_⟩) (fun _ => by assumption) ?_
  rotate_left
  (focus (intro w0 hSw; go_simp <;> with_reducible rfl))
  simp only [List.getElem_toArray, List.getElem_cons_succ, List.getElem_cons_zero, Act.put, List.setIfInBounds_toArray, List.set_cons_zero, List.set_cons_succ]
  refine wpAnyP_takeA (i := 4) (v := ?_) rfl (by kernel_rfl) (by kernel_rfl) (by kernel_rfl) (by kernel_rfl) (by kernel_rfl) (by kernel_rfl) (fun _ _ _ h => h) (Or.inl ⟨by rfl, ?_⟩) (by assumption) ?_
  rotate_left
  (focus (intro w0 hSw; (try dsimp only at hSw); go_simp <;> with_reducible rfl))
  simp only [List.getElem_toArray, List.getElem_cons_succ, List.getElem_cons_zero, Act.put, List.setIfInBounds_toArray, List.set_cons_zero, List.set_cons_succ]
  refine wpAnyP_skim (i := 6) (v := ?_) rfl (by kernel_rfl) (by kernel_rfl) (by kernel_rfl) (by kernel_rfl) (fun _ _ _ h => h) (Or.inl ⟨by rfl, ?_⟩) (fun _ => by assumption) ?_
  rotate_left
  (focus (intro w0 hSw; go_simp <;> with_reducible rfl))
  simp only [List.getElem_toArray, List.getElem_cons_succ, List.getElem_cons_zero, Act.put, List.setIfInBounds_toArray, List.set_cons_zero, List.set_cons_succ]
  refine wpAnyP_takeA (i := 7) (v := ?_) rfl (by kernel_rfl) (by kernel_rfl) (by kernel_rfl) (by kernel_rfl) (by kernel_rfl) (by kernel_rfl) (fun _ _ _ h => h) (Or.inl ⟨by rfl, ?_⟩) (by assumption) ?_
  rotate_left
  (focus (intro w0 hSw; (try dsimp only at hSw); go_simp <;> with_reducible rfl))
  simp only [List.getElem_toArray, List.getElem_cons_succ, List.getElem_cons_zero, Act.put, List.setIfInBounds_toArray, List.set_cons_zero, List.set_cons_succ]
  refine wpAnyP_skim (i := 9) (v := ?_) rfl (by kernel_rfl) (by kernel_rfl) (by kernel_rfl) (by kernel_rfl) (fun _ _ _ h => h) (Or.inl ⟨by rfl, ?_⟩) (fun _ => by assumption) ?_
  rotate_left
  (focus (intro w0 hSw; go_simp <;> with_reducible rfl))
  simp only [List.getElem_toArray, List.getElem_cons_succ, List.getElem_cons_zero, Act.put, List.setIfInBounds_toArray, List.set_cons_zero, List.set_cons_succ]
  refine wpAnyP_takeA (i := 10) (v := ?_) rfl (by kernel_rfl) (by kernel_rfl) (by kernel_rfl) (by kernel_rfl) (by kernel_rfl) (by kernel_rfl) (fun _ _ _ h => h) (Or.inl ⟨by rfl, ?_⟩) (by assumption) ?_
  rotate_left
  (focus (intro w0 hSw; (try dsimp only at hSw); go_simp <;> with_reducible rfl))
  simp only [List.getElem_toArray, List.getElem_cons_succ, List.getElem_cons_zero, Act.put, List.setIfInBounds_toArray, List.set_cons_zero, List.set_cons_succ]
  refine wpAnyP_ready (rs := [2]) (by kernel_rfl) (by simp) ?_
  refine AllReadyP.cons (o := _) rfl (fun K hK => ?_) ?_
  rotate_left
  exact AllReadyP.nil
  go_simp
  go_at_call 13
  refine (C0.out _ HB.out).mono ?_
  rintro e u1 ⟨b0, d0, Y0, rfl, hb, hc, hT⟩
  (try go_wp2_with fail)
  have m0 := And.intro (kCb hb (hHeld.1)) (And.intro (kCb hb (hHeld.2.1)) (And.intro (kCb hb (hHeld.2.2.1)) (kCb hb (hHeld.2.2.2))))
  refine hK.out _ _ (fun _ => m0) (fun hS9 => ?_)
  clear hK K hS9
  try simp only [Act.put, List.setIfInBounds_toArray, List.set_cons_zero, List.set_cons_succ]
  replace HB := hid (HB.out.trans (hb.mono HB.out.size)); replace BR := hid (BR.out.below hb)
  have T0 := hid hT.out
  clear hb hc hT
  refine wpAnyP_ready (rs := [5]) (by kernel_rfl) (by simp) ?_
  refine AllReadyP.cons (o := _) rfl (fun K hK => ?_) ?_
  rotate_left
  exact AllReadyP.nil
  go_simp
  go_at_call 13
  refine (C1.out _ HB.out).mono ?_
  rintro e u2 ⟨b1, d1, Y1, rfl, hb, hc, hT⟩
  (try go_wp2_with fail)
  have m1 := And.intro (kCb hb (m0.1)) (And.intro (kCb hb (m0.2.1)) (And.intro (kCb hb (m0.2.2.1)) (kCb hb (m0.2.2.2))))
  refine hK.out _ _ (fun _ => m1) (fun hS9 => ?_)
  clear hK K hS9
  try simp only [Act.put, List.setIfInBounds_toArray, List.set_cons_zero, List.set_cons_succ]
  replace HB := hid (HB.out.trans (hb.mono HB.out.size)); replace BR := hid (BR.out.below hb); replace T0 := hid (T0.out.below hb)
  have T1 := hid hT.out
  clear hb hc hT
  refine wpAnyP_ready (rs := [8]) (by kernel_rfl) (by simp) ?_
  refine AllReadyP.cons (o := _) rfl (fun K hK => ?_) ?_
  rotate_left
  exact AllReadyP.nil
  go_simp
  go_at_call 13
  refine (C2.out _ HB.out).mono ?_
  rintro e u3 ⟨b2, d2, Y2, rfl, hb, hc, hT⟩
  (try go_wp2_with fail)
  have m2 := And.intro (kCb hb (m1.1)) (And.intro (kCb hb (m1.2.1)) (And.intro (kCb hb (m1.2.2.1)) (kCb hb (m1.2.2.2))))
  refine hK.out _ _ (fun _ => m2) (fun hS9 => ?_)
  clear hK K hS9
  try simp only [Act.put, List.setIfInBounds_toArray, List.set_cons_zero, List.set_cons_succ]
  replace HB := hid (HB.out.trans (hb.mono HB.out.size)); replace BR := hid (BR.out.below hb); replace T0 := hid (T0.out.below hb); replace T1 := hid (T1.out.below hb)
  have T2 := hid hT.out
  clear hb hc hT
  refine wpAnyP_ready (rs := [11]) (by kernel_rfl) (by simp) ?_
  refine AllReadyP.cons (o := _) rfl (fun K hK => ?_) ?_
  rotate_left
  exact AllReadyP.nil
  go_simp
  go_at_call 13
  refine (C3.out _ HB.out).mono ?_
  rintro e u4 ⟨b3, d3, Y3, rfl, hb, hc, hT⟩
  (try go_wp2_with fail)
  have m3 := And.intro (kCb hb (m2.1)) (And.intro (kCb hb (m2.2.1)) (And.intro (kCb hb (m2.2.2.1)) (kCb hb (m2.2.2.2))))
  refine hK.out _ _ (fun _ => m3) (fun hS9 => ?_)
  clear hK K hS9
  try simp only [Act.put, List.setIfInBounds_toArray, List.set_cons_zero, List.set_cons_succ]
  replace HB := hid (HB.out.trans (hb.mono HB.out.size)); replace BR := hid (BR.out.below hb); replace T0 := hid (T0.out.below hb); replace T1 := hid (T1.out.below hb); replace T2 := hid (T2.out.below hb)
  have T3 := hid hT.out
  clear hb hc hT
  refine wpAnyP_ready (rs := [12]) (by kernel_rfl) (by simp) ?_
  refine AllReadyP.cons (o := _) rfl (fun K hK => ?_) ?_
  rotate_left
  exact AllReadyP.nil
  go_simp
  refine hK.out _ _ (fun _ => m3) (fun hS9 => ?_)
  clear hK K hS9
  try simp only [Act.put, List.setIfInBounds_toArray, List.set_cons_zero, List.set_cons_succ]
  refine wpAnyP_ready (rs := [13]) (by kernel_rfl) (by simp) ?_
  refine AllReadyP.cons (o := _) rfl (fun K hK => ?_) ?_
  rotate_left
  exact AllReadyP.nil
  obtain ⟨hx1, hx2, hx3⟩ := st_new [.slice b0 k0 d0, .slice b1 k1 d1, .slice b2 k2 d2, .slice b3 k3 d3] BR.out (nou_list (fun u hu q => by simp at hu; subst hu; simp)) HB.out (Nat.le_succ _)
  have hnb := bk_nob BR.out (fun v hv => by simp at hv; subst hv; exact ⟨_, _, _, rfl⟩)
  have l0 := BR.out.cell (j := 0) rfl
  have l1 := BR.out.cell (j := 1) rfl
  have l2 := BR.out.cell (j := 2) rfl
  have l3 := BR.out.cell (j := 3) rfl
  have ff := BR.out.frozen
  have HX : Hid (T4 (stl (w.heap.size + 1) 0 [.slice b0 k0 d0, .slice b1 k1 d1, .slice b2 k2 d2, .slice b3 k3 d3] u4) b0 b1 b2 b3 k0 X0 Y0 k1 X1 Y1 k2 X2 Y2 k3 X3 Y3) := ⟨⟨T0.out.1.st hx2 hx3 hnb, T0.out.2⟩, ⟨T1.out.1.st hx2 hx3 hnb, T1.out.2⟩, ⟨T2.out.1.st hx2 hx3 hnb, T2.out.2⟩, ⟨T3.out.1.st hx2 hx3 hnb, T3.out.2⟩⟩
  have HY := hid hx1
  clear hx1 hx2 hx3 hnb
  go_simp
  refine hK.out _ _ (fun h => by cases h) (fun _ => ?_)
  clear hK K
  try simp only [Act.put, List.setIfInBounds_toArray, List.set_cons_zero, List.set_cons_succ]
  refine wpAnyP_done (by kernel_rfl) ?_ _
  clear hHeld m0 m1 m2 m3 T0 T1 T2 T3 C0 C1 C2 C3 HB BR
  go_wp2
  exact bodyPost_ret (v := .agg #[.slice b0 k0 d0, .slice b1 k1 d1, .slice b2 k2 d2, .slice b3 k3 d3]) (by simp [results, Tryz.results11, go_sem, l0, l1, l2, l3]) rfl (HA.out _ _ Y0 _ _ Y1 _ _ Y2 _ _ Y3 _ HY.out HX.out)
theorem lstep_zero {a b : Int} (h : lstep a b = 0) : a = 0 ∧ b = 0 := by
  unfold lstep at h
  split at h <;> omega
theorem fqu_zero {e0 e1 e2 e3 : Int} (h : lsf (fqu e0 e1 e2 e3) 4 = 0) : e0 = 0 ∧ e1 = 0 ∧ e2 = 0 ∧ e3 = 0 := by
  simp only [lsf] at h
  obtain ⟨h, h3⟩ := lstep_zero h
  obtain ⟨h, h2⟩ := lstep_zero h
  obtain ⟨h, h1⟩ := lstep_zero h
  obtain ⟨_, h0⟩ := lstep_zero h
  exact ⟨h0, h1, h2, h3⟩
theorem pnE_zero {k : Nat} {X : Nat → Nm} {z : Int} (h : pnE k X z = 0) : afB k X = true ∧ (k : Int) = z := by
  unfold pnE at h
  by_cases a : afB k X = true
  · rw [if_pos a] at h
    by_cases b : (k : Int) = z
    · exact ⟨a, b⟩
    · rw [if_neg b] at h; cases h
  · rw [if_neg a] at h; cases h
theorem pnE_tx {w ao k X X' z} (hx : Tx w ao k X X') : pnE k X' z = pnE k X z := by
  unfold pnE
  rw [show afB k X' = afB k X from afr_sn (fun j _ b => hx.2 j (by omega))]
theorem cbE_tw {K w M M' a0 a1 a2 a3} {k0 k1 k2 k3 : Nat} {X0 X1 X2 X3 Y0 Y1 Y2 Y3 : Nat → Nm} (h : TmK K w M M') (t : T4 w a0 a1 a2 a3 k0 X0 Y0 k1 X1 Y1 k2 X2 Y2 k3 X3 Y3) : cbE M' k0 Y0 k1 Y1 k2 Y2 k3 Y3 = cbE M k0 X0 k1 X1 k2 X2 k3 X3 := by
  unfold cbE fctE
  rw [h.1.chk, h.1.ck, h.1.rk, pnE_tx t.t0, pnE_tx t.t1, pnE_tx t.t2, pnE_tx t.t3]
/-- What is known where a certificate fits a model. -/
theorem cbE_fit {M : Mo} {k0 k1 k2 k3 : Nat} {X0 X1 X2 X3 : Nat → Nm} (h : cbE M k0 X0 k1 X1 k2 X2 k3 X3 = 0) : chkE M = 0 ∧ (afB k0 X0 = true ∧ afB k1 X1 = true ∧ afB k2 X2 = true ∧ afB k3 X3 = true) ∧ k0 = M.rk ∧ k1 = M.rk ∧ k2 = M.ck ∧ k3 = M.ck := by
  obtain ⟨h1, h2⟩ := two_zero h
  obtain ⟨e0, e1, e2, e3⟩ := fqu_zero h2
  obtain ⟨f0, g0⟩ := pnE_zero e0
  obtain ⟨f1, g1⟩ := pnE_zero e1
  obtain ⟨f2, g2⟩ := pnE_zero e2
  obtain ⟨f3, g3⟩ := pnE_zero e3
  exact ⟨h1, ⟨f0, f1, f2, f3⟩, by omega, by omega, by omega, by omega⟩
theorem rsOf_len (M : Mo) : (rsOf M).length = M.rk := by simp [rsOf]
/-- Is a certificate one of a model? -/
def vldM (M : Mo) (k0 : Nat) (X0 : Nat → Nm) (k1 : Nat) (X1 : Nat → Nm) (k2 : Nat) (X2 : Nat → Nm) (k3 : Nat) (X3 : Nat → Nm) : Bool := decide (chkE M = 0) && vldB (cbE M k0 X0 k1 X1 k2 X2 k3 X3) (csOf M).length (bdA (csOf M) (rsOf M) (psOf k0 X0) (psOf k1 X1) (psOf k2 X2) (psOf k3 X3))
theorem validTw12_c {w : World} {M M' : Mo} {a0 a1 a2 a3 : Option Addr} {k0 c0 k1 c1 k2 c2 k3 c3 : Nat} {X0 X1 X2 X3 Y0 Y1 Y2 Y3 : Nat → Nm} (h : TmK 6 w M M') (hN : MoN M) (t : T4 w a0 a1 a2 a3 k0 X0 Y0 k1 X1 Y1 k2 X2 Y2 k3 X3 Y3) (s0 : ShK 6 k0 X0) (s1 : ShK 6 k1 X1) (s2 : ShK 6 k2 X2) (s3 : ShK 6 k3 X3) :
    Calls Tryz.prog 9 #[M'.val, .agg #[.slice a0 k0 c0, .slice a1 k1 c1, .slice a2 k2 c2, .slice a3 k3 c3]] w fun e w' => e = .returned (.tuple #[.bool (vldM M k0 X0 k1 X1 k2 X2 k3 X3), .int .i64 (chkE M)]) ∧ Below w.heap.size w w' := by
  have := fValid_v (L := 6) (c0 := c0) (c1 := c1) (c2 := c2) (c3 := c3) (off := nq M.off) (cs := csOf M) (rs := rsOf M) (l0 := psOf k0 X0) (l1 := psOf k1 X1) (l2 := psOf k2 X2) (l3 := psOf k3 X3) h.2.1 t.t0.1 t.t1.1 t.t2.1 t.t3.1 (by have := s0.1; omega) (by have := s1.1; omega) (by have := s2.1; omega) (by have := s3.1; omega) (cbE_tw h t) (fun he => by
    obtain ⟨h1, ⟨f0, f1, f2, f3⟩, g0, g1, g2, g3⟩ := cbE_fit he
    obtain ⟨a, b⟩ := h.valL 6 (by decide) (by decide) hN h1
    exact ⟨a, b, ⟨t.t0.valK s0 f0, t.t1.valK s1 f1, t.t2.valK s2 f2, t.t3.valK s3 f3⟩, ⟨psOf_len _ _, psOf_len _ _, psOf_len _ _, psOf_len _ _⟩, by rw [rsOf_len]; exact g0, by rw [rsOf_len]; exact g1, by rw [csOf_len]; exact g2, by rw [csOf_len]; exact g3⟩) (by decide) (by decide)
  rw [h.1.chk] at this
  exact this
theorem crossTw12_c {w : World} {M M' : Mo} (h : TmK 6 w M M') (hN : MoN M) : Calls Tryz.prog 14 #[M'.val] w fun e w' => CsgAns w w' e (chkE M) (csOf M) (rsOf M) :=
  fCrossing_v (L := 6) (off := nq M.off) h.2.1 (fun a b => (h.2.2.2 a b).mob (by decide)) h.1.chk (fun he => h.valL 6 (by decide) (by decide) hN he)
theorem feasTw6_c {w : World} {M M' : Mo} {ao : Option Addr} {k cap : Nat} {X X' : Nat → Nm} (h : TmK 6 w M M') (hN : MoN M) (hx : Tx w ao k X X') (hs : ShK 6 k X) :
    Calls Tryz.prog 12 #[M'.val, .slice ao k cap] w fun e w' => e = .returned (.tuple #[.bool (decide (pckE M k X = 0) && feasB (csOf M) (rsOf M) (psOf k X)), .int .i64 (pckE M k X)]) ∧ Below w.heap.size w w' :=
  pFeas_v h.2.1 hx.1 (by have := hs.1; omega) (pckE_twK h hx) (fun he => tw_hvK 6 (by decide) (by decide) h hN hx hs he) (by decide)
end Go.Proofs.YtedpomledbgpoaaGreat
namespace Go.Proofs.YtedpomledbgpoaaGreat
open Go.RowKit

theorem crl_in {B : Nat → Bool} {j : Nat} : ∀ {n : Nat}, ((j : Int) ∈ crl B n) ↔ (j < n ∧ B j = true)
  | 0 => by simp [crl]
  | n + 1 => by
    have ih := crl_in (B := B) (j := j) (n := n)
    cases h : B n
    · rw [crl_no h, ih]
      constructor
      · rintro ⟨a, b⟩; exact ⟨by omega, b⟩
      · rintro ⟨a, b⟩
        refine ⟨?_, b⟩
        rcases Nat.lt_or_ge j n with h1 | h1
        · exact h1
        · have : j = n := by omega
          rw [this, h] at b; cases b
    · rw [crl_yes h, List.mem_append, ih, List.mem_singleton]
      constructor
      · rintro (⟨a, b⟩ | a)
        · exact ⟨by omega, b⟩
        · have : j = n := by omega
          rw [this]; exact ⟨by omega, h⟩
      · rintro ⟨a, b⟩
        rcases Nat.lt_or_ge j n with h1 | h1
        · exact .inl ⟨h1, b⟩
        · exact .inr (by omega)
def rsum (f : Nat → Rat) : Nat → Rat
  | 0 => 0
  | n + 1 => rsum f n + f n
/-- A sum of terms at numbers. -/
def dotT (xs : List Rat) : List (Int × Rat) → Rat
  | [] => 0
  | t :: r => tprod xs t + dotT xs r
theorem dotT_act (xs : List Rat) : ∀ (ts : List (Int × Rat)), psum (ts.map (tprod xs)) 0 = dotT xs ts
  | [] => rfl
  | t :: r => by
    simp only [List.map_cons, dotT]
    rw [psum_cons, dotT_act xs r]
theorem rsum_add (f g : Nat → Rat) : ∀ n, rsum (fun j => f j + g j) n = rsum f n + rsum g n
  | 0 => by show (0 : Rat) = 0 + 0; grind
  | n + 1 => by
    simp only [rsum]
    rw [rsum_add f g n]; grind
theorem rsum_smul (c : Rat) (f : Nat → Rat) : ∀ n, rsum (fun j => c * f j) n = c * rsum f n
  | 0 => by show (0 : Rat) = c * 0; grind
  | n + 1 => by
    simp only [rsum]
    rw [rsum_smul c f n]; grind
theorem rsum_zero {f : Nat → Rat} : ∀ {n : Nat}, (∀ j, j < n → f j = 0) → rsum f n = 0
  | 0, _ => rfl
  | n + 1, h => by
    simp only [rsum]
    rw [rsum_zero (fun j hj => h j (by omega)), h n (by omega)]; grind
theorem rsum_congr {f g : Nat → Rat} : ∀ {n : Nat}, (∀ j, j < n → f j = g j) → rsum f n = rsum g n
  | 0, _ => rfl
  | n + 1, h => by
    simp only [rsum]
    rw [rsum_congr (fun j hj => h j (by omega)), h n (by omega)]
theorem rsum_pt (z : Nat) (a : Rat) (x : Nat → Rat) : ∀ n, z < n → rsum (fun j => (if (z : Int) = (j : Int) then a else 0) * x j) n = a * x z
  | 0, h => by omega
  | n + 1, h => by
    simp only [rsum]
    by_cases e : z = n
    · subst e
      rw [if_pos rfl, rsum_zero (fun j hj => by rw [if_neg (by omega)]; grind)]; grind
    · rw [rsum_pt z a x n (by omega), if_neg (by omega)]; grind
theorem dot_coef {n : Nat} (xs : List Rat) : ∀ {ts : List (Int × Rat)}, (∀ p ∈ ts, 0 ≤ p.1 ∧ p.1 < (n : Int)) → dotT xs ts = rsum (fun j => coefT ts j * xs.getD j 0) n
  | [], _ => (rsum_zero (fun j _ => by show (0 : Rat) * _ = 0; grind)).symm
  | (z, a) :: r, h => by
    obtain ⟨h0, h1⟩ := h (z, a) List.mem_cons_self
    obtain ⟨k, rfl⟩ := Int.eq_ofNat_of_zero_le (show 0 ≤ z from h0)
    replace h1 : ((k : Nat) : Int) < (n : Int) := h1
    simp only [dotT]
    rw [dot_coef xs (fun p hp => h p (List.mem_cons_of_mem _ hp)), rsum_congr (f := fun j => coefT ((((k : Nat) : Int), a) :: r) j * xs.getD j 0) (g := fun j => (if ((k : Nat) : Int) = (j : Int) then a else 0) * xs.getD j 0 + coefT r j * xs.getD j 0) (fun j _ => by show ((if ((k : Nat) : Int) = (j : Int) then a else 0) + coefT r j) * _ = _; grind), rsum_add, rsum_pt k a (fun j => xs.getD j 0) n (by omega)]
    rfl
theorem cmb_dot {n : Nat} (xs : List Rat) : ∀ {bs : List BV}, (∀ b ∈ bs, ∀ p ∈ b.ts, 0 ≤ p.1 ∧ p.1 < (n : Int)) → sumF (fun b => wtQ b * dotT xs b.ts) bs = rsum (fun j => cmbQ bs j * xs.getD j 0) n
  | [], _ => (rsum_zero (fun j _ => by show (0 : Rat) * _ = 0; grind)).symm
  | b :: bs, h => by
    simp only [sumF]
    rw [cmb_dot xs (fun b' hb => h b' (List.mem_cons_of_mem _ hb)), dot_coef xs (h b List.mem_cons_self), ← rsum_smul, ← rsum_add]
    exact rsum_congr (fun j _ => by show _ = (wtQ b * coefT b.ts j + cmbQ bs j) * _; grind)
theorem cmb_le (xs : List Rat) : ∀ {bs : List BV}, (∀ b ∈ bs, wtQ b * b.a ≤ wtQ b * dotT xs b.ts) → cmbS bs ≤ sumF (fun b => wtQ b * dotT xs b.ts) bs
  | [], _ => Rat.le_refl
  | b :: bs, h => by
    have h1 := h b List.mem_cons_self
    have h2 := cmb_le xs (fun b' hb => h b' (List.mem_cons_of_mem _ hb))
    show wtQ b * b.a + cmbS bs ≤ wtQ b * dotT xs b.ts + sumF (fun b => wtQ b * dotT xs b.ts) bs
    grind
theorem bdR_mem : ∀ {rs : List RV} {ps qs : List Rat} {b : BV}, b ∈ bdR rs ps qs → ∃ v ∈ rs, ∃ p, b = ⟨p, v.li, v.lq, false, v.ts⟩ ∨ b = ⟨p, v.hi, v.hq, true, v.ts⟩
  | [], _, _, _, h => by cases h
  | _ :: _, [], _, _, h => by cases h
  | _ :: _, _ :: _, [], _, h => by cases h
  | v :: rs, p :: ps, q :: qs, b, h => by
    simp only [bdR, List.mem_cons] at h
    rcases h with h | h | h
    · exact ⟨v, List.mem_cons_self, p, .inl h⟩
    · exact ⟨v, List.mem_cons_self, q, .inr h⟩
    · obtain ⟨v', h1, h2⟩ := bdR_mem h
      exact ⟨v', List.mem_cons_of_mem _ h1, h2⟩
theorem bdC_mem : ∀ {j : Int} {cs : List CV} {ps qs : List Rat} {b : BV}, b ∈ bdC j cs ps qs → ∃ (i : Nat) (v : CV), cs[i]? = some v ∧ ∃ p, b = ⟨p, v.li, v.lq, false, [(j + i, 1)]⟩ ∨ b = ⟨p, v.hi, v.hq, true, [(j + i, 1)]⟩
  | _, [], _, _, _, h => by cases h
  | _, _ :: _, [], _, _, h => by cases h
  | _, _ :: _, _ :: _, [], _, h => by cases h
  | j, v :: cs, p :: ps, q :: qs, b, h => by
    simp only [bdC, List.mem_cons] at h
    rcases h with h | h | h
    · exact ⟨0, v, rfl, p, .inl (by rw [h]; simp)⟩
    · exact ⟨0, v, rfl, q, .inr (by rw [h]; simp)⟩
    · obtain ⟨i, v', h1, p', h2⟩ := bdC_mem h
      refine ⟨i + 1, v', h1, p', ?_⟩
      rw [show j + ((i + 1 : Nat) : Int) = j + 1 + (i : Int) by omega]; exact h2
theorem kps_low {q t lq hq : Rat} {li hi : Int} (hk : kpsB t li lq hi hq = true) (h0 : 0 ≤ q) (hi0 : li ≠ 0 → q = 0) : q * lq ≤ q * t := by
  simp only [kpsB, decide_eq_true_eq] at hk
  by_cases e : li = 0
  · have h1 : lq ≤ t := by rcases hk.1 with h | h; omega; exact h.2
    have h2 := Rat.mul_nonneg h0 (show 0 ≤ t - lq by grind)
    grind
  · rw [hi0 e]; grind
theorem kps_up {q t lq hq : Rat} {li hi : Int} (hk : kpsB t li lq hi hq = true) (h0 : 0 ≤ q) (hi0 : hi ≠ 0 → q = 0) : -q * hq ≤ -q * t := by
  simp only [kpsB, decide_eq_true_eq] at hk
  by_cases e : hi = 0
  · have h1 : t ≤ hq := by rcases hk.2 with h | h; omega; exact h.2
    have h2 := Rat.mul_nonneg h0 (show 0 ≤ hq - t by grind)
    grind
  · rw [hi0 e]; grind
/-- Numbers that are feasible keep each bound. -/
theorem feas_at {cs : List CV} {rs : List RV} {xs : List Rat} (h : feasB cs rs xs = true) (hl : xs.length = cs.length) : (∀ (j : Nat) (v : CV), cs[j]? = some v → kpsB (xs.getD j 0) v.li v.lq v.hi v.hq = true) ∧ ∀ v ∈ rs, kpsB (dotT xs v.ts) v.li v.lq v.hi v.hq = true := by
  simp only [feasB, Bool.and_eq_true, decide_eq_true_eq, crl_nil] at h
  refine ⟨fun j v hv => ?_, fun v hv => ?_⟩
  · have hj := (List.getElem?_eq_some_iff.1 hv).1
    have h1 := h.1 j hj
    have hx : xs[j]? = some (xs.getD j 0) := by rw [List.getD_eq_getElem?_getD, List.getElem?_eq_getElem (by omega)]; rfl
    rw [bcB, hv, hx] at h1
    simpa using h1
  · obtain ⟨j, hj⟩ := List.getElem?_of_mem hv
    have h1 := h.2 j (List.getElem?_eq_some_iff.1 hj).1
    rw [brB, hj] at h1
    have e : actQ xs v = dotT xs v.ts := dotT_act xs v.ts
    simpa [e] using h1
/-- A model with a certificate has no point. -/
theorem shows_v {cs : List CV} {rs : List RV} {l0 l1 l2 l3 xs : List Rat} {er : Int} (ho : mvOk cs rs = true) (hl : xs.length = cs.length) (hv : vldB er cs.length (bdA cs rs l0 l1 l2 l3) = true) (hf : feasB cs rs xs = true) : False := by
  have mp := mvOk_p ho
  obtain ⟨hc, hr⟩ := feas_at hf hl
  simp only [vldB, Bool.and_eq_true, decide_eq_true_eq, Bool.not_eq_true', List.any_eq_false, List.all_eq_true] at hv
  obtain ⟨_, hinf, hneg, hz, hpos⟩ := hv
  have hts : ∀ b ∈ bdA cs rs l0 l1 l2 l3, ∀ p ∈ b.ts, 0 ≤ p.1 ∧ p.1 < (cs.length : Int) := fun b hb p hp => by
    rcases List.mem_append.1 hb with h | h
    · obtain ⟨v, h1, q, h2 | h2⟩ := bdR_mem h <;> (subst h2; exact mp.tc v h1 p hp)
    · obtain ⟨i, v, h1, q, h2 | h2⟩ := bdC_mem h <;>
        (subst h2
         have hi := (List.getElem?_eq_some_iff.1 h1).1
         simp only [List.mem_singleton] at hp
         subst hp
         exact ⟨by show (0 : Int) ≤ 0 + (i : Int); omega, by show (0 : Int) + (i : Int) < _; omega⟩)
  have hle : ∀ b ∈ bdA cs rs l0 l1 l2 l3, wtQ b * b.a ≤ wtQ b * dotT xs b.ts := fun b hb => by
    have hi := hinf b hb
    have hn := hneg b hb
    have h0 : 0 ≤ b.q := by
      have : ¬ (b.q < 0) := by simpa [negB] using hn
      exact Rat.not_lt.1 this
    have hi2 : b.i ≠ 0 → b.q = 0 := fun e => by
      have : ¬ (b.i ≠ 0 ∧ b.q ≠ 0) := by simpa [infB] using hi
      by_cases e2 : b.q = 0
      · exact e2
      · exact absurd ⟨e, e2⟩ this
    rcases List.mem_append.1 hb with h | h
    · obtain ⟨v, h1, q, h2 | h2⟩ := bdR_mem h
      · subst h2; exact kps_low (hr v h1) h0 hi2
      · subst h2; exact kps_up (hr v h1) h0 hi2
    · obtain ⟨i, v, h1, q, h2⟩ := bdC_mem h
      have e : dotT xs [((0 : Int) + (i : Int), (1 : Rat))] = xs.getD i 0 := by
        show 1 * xs.getD ((0 : Int) + (i : Int)).toNat 0 + 0 = _
        rw [show ((0 : Int) + (i : Int)).toNat = i by omega]; grind
      rcases h2 with h2 | h2
      · subst h2
        show q * v.lq ≤ q * dotT xs _
        rw [e]; exact kps_low (hc i v h1) h0 hi2
      · subst h2
        show -q * v.hq ≤ -q * dotT xs _
        rw [e]; exact kps_up (hc i v h1) h0 hi2
  have h1 := cmb_le xs hle
  rw [cmb_dot xs hts, rsum_zero (fun j hj => by
    have := hz (cmbQ (bdA cs rs l0 l1 l2 l3) j) (List.mem_map.2 ⟨j, List.mem_range.2 hj, rfl⟩)
    rw [this]; grind)] at h1
  exact absurd hpos (Rat.not_lt.2 h1)
/-- A bound pair's multiplier: none, or 1 where the bounds are crossed. -/
def CrP (p : Rat) (li : Int) (lq : Rat) (hi : Int) (hq : Rat) : Prop := p = 0 ∨ p = 1 ∧ li = 0 ∧ hi = 0 ∧ hq < lq
/-- What bounds make where both of each pair have one multiplier. -/
structure CrO (bs : List BV) : Prop where
  inf : bs.any infB = false
  neg : bs.any negB = false
  q : ∀ j, cmbQ bs j = 0
  s : 0 ≤ cmbS bs
theorem CrO.cons {bs : List BV} {p : Rat} {li : Int} {lq : Rat} {hi : Int} {hq : Rat} {ts : List (Int × Rat)} (h : CrO bs) (hp : CrP p li lq hi hq) : CrO (⟨p, li, lq, false, ts⟩ :: ⟨p, hi, hq, true, ts⟩ :: bs) ∧ (p = 1 → 0 < cmbS (⟨p, li, lq, false, ts⟩ :: ⟨p, hi, hq, true, ts⟩ :: bs)) := by
  have e : cmbS (⟨p, li, lq, false, ts⟩ :: ⟨p, hi, hq, true, ts⟩ :: bs) = p * lq + (-p * hq + cmbS bs) := rfl
  have hs := h.s
  rcases hp with rfl | ⟨rfl, rfl, rfl, hl⟩
  · refine ⟨⟨?_, ?_, fun j => ?_, ?_⟩, fun h => absurd h (by decide)⟩
    · simp only [List.any_cons, h.inf]; simp [infB]
    · simp only [List.any_cons, h.neg]; simp [negB]
    · show (0 : Rat) * coefT ts j + (-(0 : Rat) * coefT ts j + cmbQ bs j) = 0
      rw [h.q j]; grind
    · rw [e]; grind
  · refine ⟨⟨?_, ?_, fun j => ?_, ?_⟩, fun _ => ?_⟩
    · simp only [List.any_cons, h.inf]; simp [infB]
    · simp only [List.any_cons, h.neg, negB]; rw [show decide ((1 : Rat) < 0) = false by decide]; rfl
    · show (1 : Rat) * coefT ts j + (-(1 : Rat) * coefT ts j + cmbQ bs j) = 0
      rw [h.q j]; grind
    · rw [e]; grind
    · rw [e]; grind
theorem crR : ∀ {rs : List RV} {u : List Rat}, (∀ (i : Nat) (v : RV) (p : Rat), rs[i]? = some v → u[i]? = some p → CrP p v.li v.lq v.hi v.hq) → CrO (bdR rs u u) ∧ ∀ (i : Nat), i < rs.length → u[i]? = some 1 → 0 < cmbS (bdR rs u u)
  | [], _, _ => ⟨⟨rfl, rfl, fun _ => rfl, Rat.le_refl⟩, fun i hi => by simp at hi⟩
  | _ :: _, [], _ => ⟨⟨rfl, rfl, fun _ => rfl, Rat.le_refl⟩, fun i hi h => by simp at h⟩
  | v :: rs, p :: u, h => by
    obtain ⟨h1, h2⟩ := crR (rs := rs) (u := u) (fun i v p a b => h (i + 1) v p a b)
    have hp := h 0 v p rfl rfl
    obtain ⟨h3, h4⟩ := h1.cons (ts := v.ts) hp
    refine ⟨h3, fun i hi hu => ?_⟩
    cases i with
    | zero =>
      have : p = 1 := by simpa using hu
      exact h4 this
    | succ i =>
      have h5 := h2 i (by simpa using hi) (by simpa using hu)
      show 0 < p * v.lq + (-p * v.hq + cmbS (bdR rs u u))
      rcases hp with rfl | ⟨rfl, _, _, hl⟩ <;> grind
theorem crC : ∀ {z : Int} {cs : List CV} {u : List Rat}, (∀ (i : Nat) (v : CV) (p : Rat), cs[i]? = some v → u[i]? = some p → CrP p v.li v.lq v.hi v.hq) → CrO (bdC z cs u u) ∧ ∀ (i : Nat), i < cs.length → u[i]? = some 1 → 0 < cmbS (bdC z cs u u)
  | _, [], _, _ => ⟨⟨rfl, rfl, fun _ => rfl, Rat.le_refl⟩, fun i hi => by simp at hi⟩
  | _, _ :: _, [], _ => ⟨⟨rfl, rfl, fun _ => rfl, Rat.le_refl⟩, fun i hi h => by simp at h⟩
  | z, v :: cs, p :: u, h => by
    obtain ⟨h1, h2⟩ := crC (z := z + 1) (cs := cs) (u := u) (fun i v p a b => h (i + 1) v p a b)
    have hp := h 0 v p rfl rfl
    obtain ⟨h3, h4⟩ := h1.cons (ts := [(z, 1)]) hp
    refine ⟨h3, fun i hi hu => ?_⟩
    cases i with
    | zero =>
      have : p = 1 := by simpa using hu
      exact h4 this
    | succ i =>
      have h5 := h2 i (by simpa using hi) (by simpa using hu)
      show 0 < p * v.lq + (-p * v.hq + cmbS (bdC (z + 1) cs u u))
      rcases hp with rfl | ⟨rfl, _, _, hl⟩ <;> grind
theorem sumF_app (f : BV → Rat) : ∀ (a b : List BV), sumF f (a ++ b) = sumF f a + sumF f b
  | [], b => by show sumF f b = 0 + sumF f b; grind
  | c :: a, b => by
    simp only [List.cons_append, sumF]
    rw [sumF_app f a b]; grind
theorem cv_bd {li : Int} {lq : Rat} {hi : Int} {hq : Rat} (h : cvB li lq hi hq = true) (hb : bdB li lq hi hq = true) : li = 0 ∧ hi = 0 ∧ hq < lq := by
  simp only [cvB, bdB, Bool.or_eq_true, Bool.and_eq_true, decide_eq_true_eq] at h hb
  obtain ⟨h1, h2⟩ := hb
  rcases h with h | ⟨h3, h4⟩
  · omega
  · exact ⟨by omega, by omega, h4⟩
theorem ulst_get {n : Nat} {j : Option Nat} {i : Nat} {p : Rat} (h : (ulst n j)[i]? = some p) : i < n ∧ p = if j = some i then 1 else 0 := by
  have hi : i < n := by have := (List.getElem?_eq_some_iff.1 h).1; rw [ulst_len] at this; exact this
  rw [ulst, range_map_get _ _ _ hi] at h
  exact ⟨hi, (Option.some.inj h).symm⟩
theorem mvOk_bd {cs : List CV} {rs : List RV} (h : mvOk cs rs = true) : (∀ v ∈ cs, bdB v.li v.lq v.hi v.hq = true) ∧ ∀ v ∈ rs, bdB v.li v.lq v.hi v.hq = true := by
  simp only [mvOk, Bool.and_eq_true, decide_eq_true_eq, List.all_eq_true] at h
  exact ⟨h.2.2.1, fun v hv => (h.2.2.2.1 v hv).1⟩
theorem jcl_at {cs : List CV} {j : Nat} (h : jcl cs = some j) : j < cs.length ∧ cvC cs j = true := by
  unfold jcl hdN at h
  cases e : crl (cvC cs) cs.length with
  | nil => rw [e] at h; cases h
  | cons z l =>
    obtain ⟨k, rfl, hk⟩ := crl_head e
    rw [e] at h
    have : k = j := by simpa using h
    subst this
    exact crl_in.1 (by rw [e]; exact List.mem_cons_self)
theorem jrw_at {cs : List CV} {rs : List RV} {j : Nat} (h : jrw cs rs = some j) : j < rs.length ∧ cvR rs j = true := by
  unfold jrw hdN at h
  split at h
  · cases e : crl (cvR rs) rs.length with
    | nil => rw [e] at h; cases h
    | cons z l =>
      obtain ⟨k, rfl, hk⟩ := crl_head e
      rw [e] at h
      have : k = j := by simpa using h
      subst this
      exact crl_in.1 (by rw [e]; exact List.mem_cons_self)
  · cases h
theorem j_one {cs : List CV} {rs : List RV} (h : ¬ (crl (cvC cs) cs.length = [] ∧ crl (cvR rs) rs.length = [])) : (∃ j, jcl cs = some j) ∨ ∃ i, jrw cs rs = some i := by
  cases e : crl (cvC cs) cs.length with
  | cons z l => exact .inl ⟨_, by unfold jcl hdN; rw [e]; rfl⟩
  | nil =>
    cases e2 : crl (cvR rs) rs.length with
    | nil => exact absurd ⟨e, e2⟩ h
    | cons z l => exact .inr ⟨_, by unfold jrw hdN; rw [if_pos e, e2]; rfl⟩
/-- Crossed bounds have a certificate. -/
theorem cross_vld {cs : List CV} {rs : List RV} (ho : mvOk cs rs = true) (h : ¬ (crl (cvC cs) cs.length = [] ∧ crl (cvR rs) rs.length = [])) : vldB 0 cs.length (bdA cs rs (ulst rs.length (jrw cs rs)) (ulst rs.length (jrw cs rs)) (ulst cs.length (jcl cs)) (ulst cs.length (jcl cs))) = true := by
  obtain ⟨b1, b2⟩ := mvOk_bd ho
  obtain ⟨r1, r2⟩ := crR (rs := rs) (u := ulst rs.length (jrw cs rs)) (fun i v p hv hp => by
    obtain ⟨hi, rfl⟩ := ulst_get hp
    by_cases e : jrw cs rs = some i
    · rw [if_pos e]
      have h1 := (jrw_at e).2
      rw [cvR, hv] at h1
      exact .inr ⟨rfl, cv_bd h1 (b2 v (List.mem_of_getElem? hv))⟩
    · rw [if_neg e]; exact .inl rfl)
  obtain ⟨c1, c2⟩ := crC (z := 0) (cs := cs) (u := ulst cs.length (jcl cs)) (fun i v p hv hp => by
    obtain ⟨hi, rfl⟩ := ulst_get hp
    by_cases e : jcl cs = some i
    · rw [if_pos e]
      have h1 := (jcl_at e).2
      rw [cvC, hv] at h1
      exact .inr ⟨rfl, cv_bd h1 (b1 v (List.mem_of_getElem? hv))⟩
    · rw [if_neg e]; exact .inl rfl)
  have es : cmbS (bdA cs rs (ulst rs.length (jrw cs rs)) (ulst rs.length (jrw cs rs)) (ulst cs.length (jcl cs)) (ulst cs.length (jcl cs))) = cmbS (bdR rs (ulst rs.length (jrw cs rs)) (ulst rs.length (jrw cs rs))) + cmbS (bdC 0 cs (ulst cs.length (jcl cs)) (ulst cs.length (jcl cs))) := sumF_app _ _ _
  have eq : ∀ j, cmbQ (bdA cs rs (ulst rs.length (jrw cs rs)) (ulst rs.length (jrw cs rs)) (ulst cs.length (jcl cs)) (ulst cs.length (jcl cs))) j = 0 := fun j => by
    have : cmbQ (bdA cs rs (ulst rs.length (jrw cs rs)) (ulst rs.length (jrw cs rs)) (ulst cs.length (jcl cs)) (ulst cs.length (jcl cs))) j = cmbQ (bdR rs (ulst rs.length (jrw cs rs)) (ulst rs.length (jrw cs rs))) j + cmbQ (bdC 0 cs (ulst cs.length (jcl cs)) (ulst cs.length (jcl cs))) j := sumF_app _ _ _
    rw [this, r1.q j, c1.q j]; grind
  have pos : 0 < cmbS (bdA cs rs (ulst rs.length (jrw cs rs)) (ulst rs.length (jrw cs rs)) (ulst cs.length (jcl cs)) (ulst cs.length (jcl cs))) := by
    rw [es]
    have s1 := r1.s; have s2 := c1.s
    rcases j_one h with ⟨j, hj⟩ | ⟨i, hi⟩
    · have hl := (jcl_at hj).1
      have := c2 j hl (by rw [ulst, range_map_get _ _ _ hl, if_pos hj])
      grind
    · have hl := (jrw_at hi).1
      have := r2 i hl (by rw [ulst, range_map_get _ _ _ hl, if_pos hi])
      grind
  simp only [vldB, Bool.and_eq_true, decide_eq_true_eq, Bool.not_eq_true', List.all_eq_true]
  refine ⟨trivial, ?_, ?_, fun q hq => ?_, pos⟩
  · rw [bdA, List.any_append, r1.inf, c1.inf]; rfl
  · rw [bdA, List.any_append, r1.neg, c1.neg]; rfl
  · obtain ⟨j, _, rfl⟩ := List.mem_map.1 hq
    exact eq j
/-- Crossed bounds are kept by none. -/
theorem cross_no {cs : List CV} {rs : List RV} {xs : List Rat} (ho : mvOk cs rs = true) (hl : xs.length = cs.length) (h : ¬ (crl (cvC cs) cs.length = [] ∧ crl (cvR rs) rs.length = [])) : feasB cs rs xs = false := by
  rw [Bool.eq_false_iff]
  intro hf
  exact shows_v ho hl (cross_vld ho h) hf
end Go.Proofs.YtedpomledbgpoaaGreat

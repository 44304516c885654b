/-
  The walks of package farkas' check and Combine, whatever they are handed (written by makers/fk5.py). The walk of package farkas' Valid, whatever it is handed (written by makers/fk6.py). The walk of package farkas' Crossing, whatever it is handed (written by makers/fk7.py). The walks of package ray's slope, by values, of Recedes, Valid, whatever they are handed (written by makers/ra2.py). The walk of package ray's Along, whatever it is handed (written by makers/ra3.py). The walks of law10's num, two and first (written by makers/rf1.py). The walk of law07's awake (written by makers/f23.py). Ray's calls on values; the walks of law13's one, first, light, of the reference's Twin of a ray, of awake (written by makers/ra4.py). The walks of law12's num, one, first (written by makers/fk8.py). The reference's Same and Sames of lists with the same values.
-/
import Derived.Test.YtedpomledbgpoaaGreatZ11
import Derived.Test.YtedpomledbgpoaaGreatZ10
import Derived.Test.YtedpomledbgpoaaGreatZ8
import Derived.Test.YtedpomledbgpoaaGreatZ0
import Derived.Test.YtedpomledbgpoaaGreatZ7
import Derived.Test.YtedpomledbgpoaaGreatZ6
import Derived.Test.YtedpomledbgpoaaGreatZ5
import Derived.BigQuiet
import Derived.Deep.RegionHeld3
namespace Go.Proofs.YtedpomledbgpoaaGreat
open Go.RowKit

def fqu (e0 e1 e2 e3 : Int) (j : Nat) : Int := if j = 0 then e0 else if j = 1 then e1 else if j = 2 then e2 else e3
theorem fqu_el {w : World} {e0 e1 e2 e3 : Int} {t : TypeId} : El (w.alloc (.cells #[.int .i64 e0, .int .i64 e1, .int .i64 e2, .int .i64 e3] t)) (some ⟨w.heap.size, 0, none⟩) 4 (fqu e0 e1 e2 e3) := fun j hj => by
  refine ⟨_, 0, rfl, ?_⟩
  match j, hj with
  | 0, _ => simp [go_sem, fqu]
  | 1, _ => simp [go_sem, fqu]
  | 2, _ => simp [go_sem, fqu]
  | 3, _ => simp [go_sem, fqu]
/-- The error of a certificate that is handed in. -/
def fctE (n k : Int) (k0 : Nat) (X0 : Nat → Nm) (k1 : Nat) (X1 : Nat → Nm) (k2 : Nat) (X2 : Nat → Nm) (k3 : Nat) (X3 : Nat → Nm) : Int := lsf (fqu (pnE k0 X0 k) (pnE k1 X1 k) (pnE k2 X2 n) (pnE k3 X3 n)) 4
set_option maxRecDepth 100000 in
set_option maxHeartbeats 4000000 in
theorem fcheck_c {w : World} {M : Mo} {a0 a1 a2 a3 : Option Addr} {k0 c0 k1 c1 k2 c2 k3 c3 : Nat} {X0 X1 X2 X3 : Nat → Nm} (h0 : Rl w a0 k0 X0) (h1 : Rl w a1 k1 X1) (h2 : Rl w a2 k2 X2) (h3 : Rl w a3 k3 X3) (hk0 : k0 ≤ 1048576) (hk1 : k1 ≤ 1048576) (hk2 : k2 ≤ 1048576) (hk3 : k3 ≤ 1048576) :
    Calls Tryz.prog 41 #[M.val, .agg #[.slice a0 k0 c0, .slice a1 k1 c1, .slice a2 k2 c2, .slice a3 k3 c3]] w fun e w' => e = .returned (.int .i64 (fctE M.ck M.rk k0 X0 k1 X1 k2 X2 k3 X3)) ∧ Below w.heap.size w w' := by
  have C0 := hid (fun W (hW : Below w.heap.size w W) => pNumbers_c (w := W) (cap := c0) (z := (M.rk : Int)) (h0.below hW) hk0)
  have C1 := hid (fun W (hW : Below w.heap.size w W) => pNumbers_c (w := W) (cap := c1) (z := (M.rk : Int)) (h1.below hW) hk1)
  have C2 := hid (fun W (hW : Below w.heap.size w W) => pNumbers_c (w := W) (cap := c2) (z := (M.ck : Int)) (h2.below hW) hk2)
  have C3 := hid (fun W (hW : Below w.heap.size w W) => pNumbers_c (w := W) (cap := c3) (z := (M.ck : Int)) (h3.below hW) hk3)
  clear h0 h1 h2 h3
  obtain ⟨er, her⟩ : ∃ e, fctE M.ck M.rk k0 X0 k1 X1 k2 X2 k3 X3 = e := ⟨_, rfl⟩
  have HE := hid her
  unfold fctE at her
  obtain ⟨⟨s, x, n, c, f, y, m, d, g⟩, ca, ck, cc, C, ra, rk, rc, R⟩ := M
  dsimp only at her C0 C1 C2 C3
  obtain ⟨e0, he0⟩ : ∃ e, pnE k0 X0 (rk : Int) = e := ⟨_, rfl⟩
  rw [he0] at C0 her
  clear he0
  obtain ⟨e1, he1⟩ : ∃ e, pnE k1 X1 (rk : Int) = e := ⟨_, rfl⟩
  rw [he1] at C1 her
  clear he1
  obtain ⟨e2, he2⟩ : ∃ e, pnE k2 X2 (ck : Int) = e := ⟨_, rfl⟩
  rw [he2] at C2 her
  clear he2
  obtain ⟨e3, he3⟩ : ∃ e, pnE k3 X3 (ck : Int) = e := ⟨_, rfl⟩
  rw [he3] at C3 her
  clear he3
  have HE2 := hid her
  clear her
  show Calls Tryz.prog 41 #[.agg #[.bool s, .slice x n c, .slice y m d, .slice ca ck cc, .slice ra rk rc], .agg #[.slice a0 k0 c0, .slice a1 k1 c1, .slice a2 k2 c2, .slice a3 k3 c3]] w _
  have hb := below_alloc (below_alloc (Below.refl w.heap.size w) (.cells #[.bool s, .slice x n c, .slice y m d, .slice ca ck cc, .slice ra rk rc] 28)) (.cells #[.slice a0 k0 c0, .slice a1 k1 c1, .slice a2 k2 c2, .slice a3 k3 c3] 31)
  have B1 : Bk ((w.alloc (.cells #[.bool s, .slice x n c, .slice y m d, .slice ca ck cc, .slice ra rk rc] 28)).alloc (.cells #[.slice a0 k0 c0, .slice a1 k1 c1, .slice a2 k2 c2, .slice a3 k3 c3] 31)) w.heap.size [.bool s, .slice x n c, .slice y m d, .slice ca ck cc, .slice ra rk rc] 28 := (bk_new w [.bool s, .slice x n c, .slice y m d, .slice ca ck cc, .slice ra rk rc] 28).below (below_alloc (Below.refl _ _) _)
  have B2 : Bk ((w.alloc (.cells #[.bool s, .slice x n c, .slice y m d, .slice ca ck cc, .slice ra rk rc] 28)).alloc (.cells #[.slice a0 k0 c0, .slice a1 k1 c1, .slice a2 k2 c2, .slice a3 k3 c3] 31)) (w.heap.size + 1) [.slice a0 k0 c0, .slice a1 k1 c1, .slice a2 k2 c2, .slice a3 k3 c3] 31 := by
    have := bk_new (w.alloc (.cells #[.bool s, .slice x n c, .slice y m d, .slice ca ck cc, .slice ra rk rc] 28)) [.slice a0 k0 c0, .slice a1 k1 c1, .slice a2 k2 c2, .slice a3 k3 c3] 31
    rw [size_alloc1] at this; exact this
  have HB := hid hb; have HB1 := hid B1; have HB2 := hid B2
  clear hb B1 B2
  go_enter Tryz.func41, Tryz.ntmps41
  go_upto_region 1 with fail
  generalize ((w.alloc (.cells #[.bool s, .slice x n c, .slice y m d, .slice ca ck cc, .slice ra rk rc] 28)).alloc (.cells #[.slice a0 k0 c0, .slice a1 k1 c1, .slice a2 k2 c2, .slice a3 k3 c3] 31)) = w1 at *
  have s3 := HB1.out.cell (j := 3) rfl
  have s4 := HB1.out.cell (j := 4) rfl
  go_quiet (fail)
  clear s3 s4
  go_upto_region 2 with fail
  have hbq := below_drewN (Below.refl w1.heap.size w1) nq
  generalize w1.drewN nq = w2 at *
  have hbd := Below.drew (Below.refl w2.heap.size w2)
  replace hbq := hbq.trans (hbd.mono hbq.size)
  replace HB := hid (HB.out.trans (hbq.mono HB.out.size)); replace HB2 := hid (HB2.out.below hbq)
  clear hbq hbd HB1
  have r0 := HB2.out.cell (j := 0) rfl
  have r1 := HB2.out.cell (j := 1) rfl
  have r2 := HB2.out.cell (j := 2) rfl
  have r3 := HB2.out.cell (j := 3) rfl
  refine wp_region_held_drew (S := (fun w' => w'.cell? ⟨w.heap.size + 1, 0, none⟩ = some (.slice a0 k0 c0) ∧ w'.cell? ⟨w.heap.size + 1, 1, none⟩ = some (.slice a1 k1 c1) ∧ w'.cell? ⟨w.heap.size + 1, 2, none⟩ = some (.slice a2 k2 c2) ∧ w'.cell? ⟨w.heap.size + 1, 3, none⟩ = some (.slice a3 k3 c3))) (by kernel_rfl) ?_ (fun hHeld => ?_)
  · exact ⟨r0, r1, r2, r3⟩
  generalize w2.drew = wd at *
  have HW := hid (Below.refl wd.heap.size wd)
  replace C0 := hid (fun W (hW : Below wd.heap.size wd W) => C0.out W (HB.out.trans (hW.mono HB.out.size)))
  replace C1 := hid (fun W (hW : Below wd.heap.size wd W) => C1.out W (HB.out.trans (hW.mono HB.out.size)))
  replace C2 := hid (fun W (hW : Below wd.heap.size wd W) => C2.out W (HB.out.trans (hW.mono HB.out.size)))
  replace C3 := hid (fun W (hW : Below wd.heap.size wd W) => C3.out W (HB.out.trans (hW.mono HB.out.size)))
  refine tkO 0 ?_
  simp only [lay_, Act.put]
  refine tkO 1 ?_
  simp only [lay_, Act.put]
  refine tkO 2 ?_
  simp only [lay_, Act.put]
  refine tkO 4 ?_
  simp only [lay_, Act.put]
  refine tkO 5 ?_
  simp only [lay_, Act.put]
  refine tkO 6 ?_
  simp only [lay_, Act.put]
  refine tkO 8 ?_
  simp only [lay_, Act.put]
  refine tkO 9 ?_
  simp only [lay_, Act.put]
  refine tkO 10 ?_
  simp only [lay_, Act.put]
  refine tkO 12 ?_
  simp only [lay_, Act.put]
  refine tkO 13 ?_
  simp only [lay_, Act.put]
  refine tkO 14 ?_
  simp only [lay_, Act.put]
  refine wpAnyH_ready (rs := [3]) (by kernel_rfl) (by simp) ?_
  refine AllReadyH.cons (o := _) rfl (fun K hK => ?_) ?_
  rotate_left
  exact AllReadyH.nil
  go_simp
  go_at_call 74
  refine (C0.out _ HW.out).mono ?_
  rintro e w2 ⟨rfl, hb0⟩
  have HW0 := hid (HW.out.trans (hb0.mono HW.out.size))
  (try go_wp2_with fail)
  refine hK.out _ _ ?_ (fun hH0 => ?_)
  · ((try dsimp only); (refine ⟨?_, ?_, ?_, ?_⟩ <;> repeat (with_reducible first | assumption | refine kCb (by assumption) ?_)))
  clear hK K
  try simp only [lay_, Act.put]
  refine wpAnyH_ready (rs := [7]) (by kernel_rfl) (by simp) ?_
  refine AllReadyH.cons (o := _) rfl (fun K hK => ?_) ?_
  rotate_left
  exact AllReadyH.nil
  go_simp
  go_at_call 74
  refine (C1.out _ HW0.out).mono ?_
  rintro e w3 ⟨rfl, hb1⟩
  have HW1 := hid (HW0.out.trans (hb1.mono HW0.out.size))
  (try go_wp2_with fail)
  refine hK.out _ _ ?_ (fun hH1 => ?_)
  · ((try dsimp only); (refine ⟨?_, ?_, ?_, ?_⟩ <;> repeat (with_reducible first | assumption | refine kCb (by assumption) ?_)))
  clear hK K
  try simp only [lay_, Act.put]
  refine wpAnyH_ready (rs := [11]) (by kernel_rfl) (by simp) ?_
  refine AllReadyH.cons (o := _) rfl (fun K hK => ?_) ?_
  rotate_left
  exact AllReadyH.nil
  go_simp
  go_at_call 74
  refine (C2.out _ HW1.out).mono ?_
  rintro e w4 ⟨rfl, hb2⟩
  have HW2 := hid (HW1.out.trans (hb2.mono HW1.out.size))
  (try go_wp2_with fail)
  refine hK.out _ _ ?_ (fun hH2 => ?_)
  · ((try dsimp only); (refine ⟨?_, ?_, ?_, ?_⟩ <;> repeat (with_reducible first | assumption | refine kCb (by assumption) ?_)))
  clear hK K
  try simp only [lay_, Act.put]
  refine wpAnyH_ready (rs := [15]) (by kernel_rfl) (by simp) ?_
  refine AllReadyH.cons (o := _) rfl (fun K hK => ?_) ?_
  rotate_left
  exact AllReadyH.nil
  go_simp
  go_at_call 74
  refine (C3.out _ HW2.out).mono ?_
  rintro e w5 ⟨rfl, hb3⟩
  have HW3 := hid (HW2.out.trans (hb3.mono HW2.out.size))
  (try go_wp2_with fail)
  refine hK.out _ _ ?_ (fun hH3 => ?_)
  · ((try dsimp only); (refine ⟨?_, ?_, ?_, ?_⟩ <;> repeat (with_reducible first | assumption | refine kCb (by assumption) ?_)))
  clear hK K
  try simp only [lay_, Act.put]
  refine wpAnyH_ready (rs := [16]) (by kernel_rfl) (by simp) ?_
  refine AllReadyH.cons (o := _) rfl (fun K hK => ?_) ?_
  rotate_left
  exact AllReadyH.nil
  go_simp
  have hbA := below_alloc (Below.refl w5.heap.size w5) (.cells #[.int .i64 e0, .int .i64 e1, .int .i64 e2, .int .i64 e3] 36)
  have HEl := hid (fqu_el (w := w5) (e0 := e0) (e1 := e1) (e2 := e2) (e3 := e3) (t := 36))
  have HWA := hid (HW3.out.trans (hbA.mono HW3.out.size))
  obtain ⟨gA, hgA⟩ : ∃ z, w5.heap.size = z := ⟨_, rfl⟩
  rw [hgA] at HEl ⊢
  generalize hwA : w5.alloc (.cells #[.int .i64 e0, .int .i64 e1, .int .i64 e2, .int .i64 e3] 36) = wA at *
  clear hwA hgA
  refine hK.out _ _ ?_ (fun hHA => ?_)
  · ((try dsimp only); (refine ⟨?_, ?_, ?_, ?_⟩ <;> repeat (with_reducible first | assumption | refine kCb (by assumption) ?_)))
  clear hK K
  try simp only [lay_, Act.put]
  refine wpAnyH_ready (rs := [17]) (by kernel_rfl) (by simp) ?_
  refine AllReadyH.cons (o := _) rfl (fun K hK => ?_) ?_
  rotate_left
  exact AllReadyH.nil
  go_simp
  go_at_call 40
  refine (least_c HEl.out (by decide)).mono ?_
  rintro e w9 ⟨rfl, rfl⟩
  (try go_wp2_with fail)
  refine hK.out _ _ ?_ (fun hHB => ?_)
  · exact hHA
  clear hK K
  try simp only [lay_, Act.put]
  refine tkO 18 ?_
  simp only [lay_, Act.put]
  refine wpAnyH_done (by kernel_rfl) ?_ _
  simp only [show lsf (fqu e0 e1 e2 e3) 4 = er from HE2.out]
  have HF := hid (HB.out.trans (HWA.out.mono HB.out.size))
  clear hHeld hH0 hH1 hH2 hH3 hHA hHB hb0 hb1 hb2 hb3 hbA r0 r1 r2 r3 HEl C0 C1 C2 C3 HW HW0 HW1 HW2 HW3 HE2 HWA HB HB2
  go_wp2
  go_ret
  exact ⟨by rw [HE.out]; rfl, HF.out⟩
/-- The error of a model and multipliers. -/
def cbE (M : Mo) (k0 : Nat) (X0 : Nat → Nm) (k1 : Nat) (X1 : Nat → Nm) (k2 : Nat) (X2 : Nat → Nm) (k3 : Nat) (X3 : Nat → Nm) : Int := lsf (two (chkE M) (fctE M.ck M.rk k0 X0 k1 X1 k2 X2 k3 X3)) 2
/-- A certificate's bounds. -/
def bdA (cs : List CV) (rs : List RV) (l0 l1 l2 l3 : List Rat) : List BV := bdR rs l0 l1 ++ bdC 0 cs l2 l3
/-- How long what Combine answers may be. -/
def KC (L : Nat) : Nat := 4 + 256 * (2 * L + 2)
/-- What Combine answers. -/
def CmbAns (L : Nat) (w w' : World) (e : Ending) (er : Int) (cs : List CV) (bs : List BV) : Prop := Below w.heap.size w w' ∧
  ((er ≠ 0 ∧ e = .returned (.tuple #[.slice none 0 0, .agg #[.bool false, .slice none 0 0, .slice none 0 0], .int .i64 er])) ∨ (er = 0 ∧ bs.any infB = true ∧ e = .returned (.tuple #[.slice none 0 0, .agg #[.bool false, .slice none 0 0, .slice none 0 0], .int .i64 8])) ∨
    (er = 0 ∧ bs.any infB = false ∧ ∃ B s x n c f y m d g, (w.heap.size ≤ B ∧ B < w'.heap.size) ∧ e = .returned (.tuple #[.slice (some ⟨B, 0, none⟩) cs.length cs.length, .agg #[.bool s, .slice x n c, .slice y m d], .int .i64 0]) ∧ Rf (KC L) w' (some ⟨B, 0, none⟩) ((List.range cs.length).map (cmbQ bs)) ∧ Rn (KC L) w' s x n c f y m d g (cmbS bs)))
theorem Bk.sx {w B s x n c y m d t} (h : Bk w B [.bool s, .slice x n c, .slice y m d] t) : Sx w B s x n c y m d := ⟨h.lt, h.cell (j := 0) rfl, h.cell (j := 1) rfl, h.cell (j := 2) rfl, h.frozen⟩
theorem Ob.sx {w B} (h : Ob w B) : Sx w B false none 0 0 none 0 0 := ⟨h.z, h.z0, h.z1, h.z2, h.zf⟩
theorem Ob.fr {F : Nat → Prop} {w w' B} (h : Ob w B) (hf : Fr F w w') (hn : ¬ F B) : Ob w' B := by
  have := h.sx.fr hf hn
  exact ⟨this.z, this.x0, this.x1, this.x2, this.fz⟩
theorem Rq.mono {K L w B i Q} (h : Rq K w B i Q) (hk : K ≤ L) : Rq L w B i Q := fun j hj => by
  obtain ⟨t, h1, h2⟩ := h j hj
  exact ⟨t, h1, h2.mono hk⟩
theorem range_map_get {α : Type} (f : Nat → α) (n j : Nat) (h : j < n) : ((List.range n).map f)[j]? = some (f j) := by simp [h]
set_option maxRecDepth 100000 in
set_option maxHeartbeats 8000000 in
theorem fCombine_v {w : World} {L : Nat} {M : Mo} {off : Rat} {cs : List CV} {rs : List RV} {a0 a1 a2 a3 : Option Addr} {k0 c0 k1 c1 k2 c2 k3 c3 : Nat} {X0 X1 X2 X3 : Nat → Nm} {l0 l1 l2 l3 : List Rat} {er : Int} (hW : MoW w M) (h0 : Rl w a0 k0 X0) (h1 : Rl w a1 k1 X1) (h2 : Rl w a2 k2 X2) (h3 : Rl w a3 k3 X3) (hk0 : k0 ≤ 1048576) (hk1 : k1 ≤ 1048576) (hk2 : k2 ≤ 1048576) (hk3 : k3 ≤ 1048576) (he : cbE M k0 X0 k1 X1 k2 X2 k3 X3 = er)
    (hv : er = 0 → MoV L w M off cs rs ∧ mvOk cs rs = true ∧ (Rf L w a0 l0 ∧ Rf L w a1 l1 ∧ Rf L w a2 l2 ∧ Rf L w a3 l3) ∧ (l0.length = k0 ∧ l1.length = k1 ∧ l2.length = k2 ∧ l3.length = k3) ∧ (k0 = rs.length ∧ k1 = rs.length ∧ k2 = cs.length ∧ k3 = cs.length)) (hL1 : 4 ≤ L) (hL2 : L ≤ 100) :
    Calls Tryz.prog 17 #[M.val, .agg #[.slice a0 k0 c0, .slice a1 k1 c1, .slice a2 k2 c2, .slice a3 k3 c3]] w fun e w' => CmbAns L w w' e er cs (bdA cs rs l0 l1 l2 l3) := by
  have CC := hid (fun W (hW2 : Below w.heap.size w W) => check_w (hW.below hW2))
  have CN := hid (fun W (hW2 : Below w.heap.size w W) => fcheck_c (M := M) (c0 := c0) (c1 := c1) (c2 := c2) (c3 := c3) (h0.below hW2) (h1.below hW2) (h2.below hW2) (h3.below hW2) hk0 hk1 hk2 hk3)
  have HE := hid he
  unfold cbE at he
  obtain ⟨e0, he0⟩ : ∃ e, chkE M = e := ⟨_, rfl⟩
  rw [he0] at CC he
  obtain ⟨e1, he1⟩ : ∃ e, fctE M.ck M.rk k0 X0 k1 X1 k2 X2 k3 X3 = e := ⟨_, rfl⟩
  rw [he1] at CN he
  have HE2 := hid he; have HV := hid hv
  clear hW h0 h1 h2 h3 he he0 he1 hv
  obtain ⟨⟨s, x, n, c, f, y, m, d, g⟩, ca, ck, cc, C, ra, rk, rc, R⟩ := M
  replace CC : Hid (∀ W, Below w.heap.size w W → Calls Tryz.prog 26 #[.agg #[.bool s, .slice x n c, .slice y m d, .slice ca ck cc, .slice ra rk rc]] W fun r w' => r = .returned (.int .i64 e0) ∧ Below W.heap.size W w') := CC
  replace CN : Hid (∀ W, Below w.heap.size w W → Calls Tryz.prog 41 #[.agg #[.bool s, .slice x n c, .slice y m d, .slice ca ck cc, .slice ra rk rc], .agg #[.slice a0 k0 c0, .slice a1 k1 c1, .slice a2 k2 c2, .slice a3 k3 c3]] W fun r w' => r = .returned (.int .i64 e1) ∧ Below W.heap.size W w') := CN
  show Calls Tryz.prog 17 #[.agg #[.bool s, .slice x n c, .slice y m d, .slice ca ck cc, .slice ra rk rc], .agg #[.slice a0 k0 c0, .slice a1 k1 c1, .slice a2 k2 c2, .slice a3 k3 c3]] w _
  have hb := below_alloc (below_alloc (below_alloc (Below.refl w.heap.size w) (.cells #[.bool s, .slice x n c, .slice y m d, .slice ca ck cc, .slice ra rk rc] 28)) (.cells #[.slice a0 k0 c0, .slice a1 k1 c1, .slice a2 k2 c2, .slice a3 k3 c3] 31)) (.cells #[.bool false, .slice none 0 0, .slice none 0 0] 24)
  have B1 : Bk (((w.alloc (.cells #[.bool s, .slice x n c, .slice y m d, .slice ca ck cc, .slice ra rk rc] 28)).alloc (.cells #[.slice a0 k0 c0, .slice a1 k1 c1, .slice a2 k2 c2, .slice a3 k3 c3] 31)).alloc (.cells #[.bool false, .slice none 0 0, .slice none 0 0] 24)) w.heap.size [.bool s, .slice x n c, .slice y m d, .slice ca ck cc, .slice ra rk rc] 28 := ((bk_new w [.bool s, .slice x n c, .slice y m d, .slice ca ck cc, .slice ra rk rc] 28).below (below_alloc (Below.refl _ _) _)).below (below_alloc (Below.refl _ _) _)
  have B2 : Bk (((w.alloc (.cells #[.bool s, .slice x n c, .slice y m d, .slice ca ck cc, .slice ra rk rc] 28)).alloc (.cells #[.slice a0 k0 c0, .slice a1 k1 c1, .slice a2 k2 c2, .slice a3 k3 c3] 31)).alloc (.cells #[.bool false, .slice none 0 0, .slice none 0 0] 24)) (w.heap.size + 1) [.slice a0 k0 c0, .slice a1 k1 c1, .slice a2 k2 c2, .slice a3 k3 c3] 31 := by
    have := bk_new (w.alloc (.cells #[.bool s, .slice x n c, .slice y m d, .slice ca ck cc, .slice ra rk rc] 28)) [.slice a0 k0 c0, .slice a1 k1 c1, .slice a2 k2 c2, .slice a3 k3 c3] 31
    rw [size_alloc1] at this; exact this.below (below_alloc (Below.refl _ _) _)
  have hob : Ob (((w.alloc (.cells #[.bool s, .slice x n c, .slice y m d, .slice ca ck cc, .slice ra rk rc] 28)).alloc (.cells #[.slice a0 k0 c0, .slice a1 k1 c1, .slice a2 k2 c2, .slice a3 k3 c3] 31)).alloc (.cells #[.bool false, .slice none 0 0, .slice none 0 0] 24)) (w.heap.size + 1 + 1) := by
    have := ob_new ((w.alloc (.cells #[.bool s, .slice x n c, .slice y m d, .slice ca ck cc, .slice ra rk rc] 28)).alloc (.cells #[.slice a0 k0 c0, .slice a1 k1 c1, .slice a2 k2 c2, .slice a3 k3 c3] 31)) 24
    rw [size_alloc1, size_alloc1] at this; exact this
  have HB := hid hb; have BM := hid B1; have BK := hid B2; have OB := hid hob
  clear hb B1 B2 hob
  go_enter Tryz.func17, Tryz.ntmps17
  go_upto_region 1 with fail
  generalize (((w.alloc (.cells #[.bool s, .slice x n c, .slice y m d, .slice ca ck cc, .slice ra rk rc] 28)).alloc (.cells #[.slice a0 k0 c0, .slice a1 k1 c1, .slice a2 k2 c2, .slice a3 k3 c3] 31)).alloc (.cells #[.bool false, .slice none 0 0, .slice none 0 0] 24)) = w1 at *
  have hbd := Below.drew (Below.refl w1.heap.size w1)
  replace HB := hid (HB.out.trans (hbd.mono HB.out.size)); replace BM := hid (BM.out.below hbd); replace BK := hid (BK.out.below hbd); replace OB := hid (OB.out.below hbd)
  clear hbd
  have r0 := BM.out.cell (j := 0) rfl
  have r1 := BM.out.cell (j := 1) rfl
  have r2 := BM.out.cell (j := 2) rfl
  have r3 := BM.out.cell (j := 3) rfl
  have r4 := BM.out.cell (j := 4) rfl
  have p0 := BK.out.cell (j := 0) rfl
  have p1 := BK.out.cell (j := 1) rfl
  have p2 := BK.out.cell (j := 2) rfl
  have p3 := BK.out.cell (j := 3) rfl
  refine wp_region_held_drew (S := (fun w' => w'.cell? ⟨w.heap.size, 0, none⟩ = some (.bool s) ∧ w'.cell? ⟨w.heap.size, 1, none⟩ = some (.slice x n c) ∧ w'.cell? ⟨w.heap.size, 2, none⟩ = some (.slice y m d) ∧ w'.cell? ⟨w.heap.size, 3, none⟩ = some (.slice ca ck cc) ∧ w'.cell? ⟨w.heap.size, 4, none⟩ = some (.slice ra rk rc) ∧ w'.cell? ⟨w.heap.size + 1, 0, none⟩ = some (.slice a0 k0 c0) ∧ w'.cell? ⟨w.heap.size + 1, 1, none⟩ = some (.slice a1 k1 c1) ∧ w'.cell? ⟨w.heap.size + 1, 2, none⟩ = some (.slice a2 k2 c2) ∧ w'.cell? ⟨w.heap.size + 1, 3, none⟩ = some (.slice a3 k3 c3))) (by kernel_rfl) ?_ (fun hHeld => ?_)
  · exact ⟨r0, r1, r2, r3, r4, p0, p1, p2, p3⟩
  generalize w1.drew = wd at *
  have HW := hid (Below.refl wd.heap.size wd)
  replace CC := hid (fun W (hW : Below wd.heap.size wd W) => CC.out W (HB.out.trans (hW.mono HB.out.size)))
  replace CN := hid (fun W (hW : Below wd.heap.size wd W) => CN.out W (HB.out.trans (hW.mono HB.out.size)))
  refine tkO 0 ?_
  simp only [lay_, Act.put]
  refine tkO 2 ?_
  simp only [lay_, Act.put]
  refine tkO 3 ?_
  simp only [lay_, Act.put]
  refine wpAnyH_ready (rs := [1]) (by kernel_rfl) (by simp) ?_
  refine AllReadyH.cons (o := _) rfl (fun K hK => ?_) ?_
  rotate_left
  exact AllReadyH.nil
  go_simp
  go_at_call 26
  refine (CC.out _ HW.out).mono ?_
  rintro e w2 ⟨rfl, hb0⟩
  have HW0 := hid (HW.out.trans (hb0.mono HW.out.size))
  (try go_wp2_with fail)
  refine hK.out _ _ ?_ (fun hH0 => ?_)
  · ((try dsimp only); (refine ⟨?_, ?_, ?_, ?_, ?_, ?_, ?_, ?_, ?_⟩ <;> repeat (with_reducible first | assumption | refine kCb (by assumption) ?_)))
  clear hK K
  try simp only [lay_, Act.put]
  refine wpAnyH_ready (rs := [4]) (by kernel_rfl) (by simp) ?_
  refine AllReadyH.cons (o := _) rfl (fun K hK => ?_) ?_
  rotate_left
  exact AllReadyH.nil
  go_simp
  go_at_call 41
  refine (CN.out _ HW0.out).mono ?_
  rintro e w3 ⟨rfl, hb1⟩
  have HW1 := hid (HW0.out.trans (hb1.mono HW0.out.size))
  (try go_wp2_with fail)
  refine hK.out _ _ ?_ (fun hH1 => ?_)
  · ((try dsimp only); (refine ⟨?_, ?_, ?_, ?_, ?_, ?_, ?_, ?_, ?_⟩ <;> repeat (with_reducible first | assumption | refine kCb (by assumption) ?_)))
  clear hK K
  try simp only [lay_, Act.put]
  refine wpAnyH_ready (rs := [5]) (by kernel_rfl) (by simp) ?_
  refine AllReadyH.cons (o := _) rfl (fun K hK => ?_) ?_
  rotate_left
  exact AllReadyH.nil
  go_simp
  have hbA := below_alloc (Below.refl w3.heap.size w3) (.cells #[.int .i64 e0, .int .i64 e1] 36)
  have HEl := hid (two_el (w := w3) (a := e0) (b := e1) (t := 36))
  have HWA := hid (HW1.out.trans (hbA.mono HW1.out.size))
  obtain ⟨gA, hgA⟩ : ∃ z, w3.heap.size = z := ⟨_, rfl⟩
  rw [hgA] at HEl ⊢
  generalize hwA : w3.alloc (.cells #[.int .i64 e0, .int .i64 e1] 36) = wA at *
  clear hwA hgA
  refine hK.out _ _ ?_ (fun hHA => ?_)
  · ((try dsimp only); (refine ⟨?_, ?_, ?_, ?_, ?_, ?_, ?_, ?_, ?_⟩ <;> repeat (with_reducible first | assumption | refine kCb (by assumption) ?_)))
  clear hK K
  try simp only [lay_, Act.put]
  refine wpAnyH_ready (rs := [6]) (by kernel_rfl) (by simp) ?_
  refine AllReadyH.cons (o := _) rfl (fun K hK => ?_) ?_
  rotate_left
  exact AllReadyH.nil
  go_simp
  go_at_call 40
  refine (least_c HEl.out (by decide)).mono ?_
  rintro e w9 ⟨rfl, rfl⟩
  (try go_wp2_with fail)
  refine hK.out _ _ ?_ (fun hHB => ?_)
  · exact hHA
  clear hK K
  try simp only [lay_, Act.put]
  refine tkO 7 ?_
  simp only [lay_, Act.put]
  refine wpAnyH_done (by kernel_rfl) ?_ _
  simp only [show lsf (two e0 e1) 2 = er from HE2.out]
  replace HB := hid (HB.out.trans (HWA.out.mono HB.out.size)); replace BM := hid (BM.out.below HWA.out); replace BK := hid (BK.out.below HWA.out); replace OB := hid (OB.out.below HWA.out)
  clear hHeld hH0 hH1 hHA hHB hb0 hb1 hbA r0 r1 r2 r3 r4 p0 p1 p2 p3 HEl CC CN HW HW0 HW1 HE2 HWA
  by_cases h0 : er = 0
  case neg =>
    have h1 : (er != 0) = true := by simpa using h0
    have H0 := hid h0
    obtain ⟨hz, z0, z1, z2, zf⟩ := OB.out
    go_wp2
    exact bodyPost_ret (v := .tuple #[.slice none 0 0, .agg #[.bool false, .slice none 0 0, .slice none 0 0], .int .i64 er]) (by simp [results, Tryz.results17, go_sem, z0, z1, z2]) rfl ⟨below_st HB.out (by omega), .inl ⟨H0.out, rfl⟩⟩
  obtain ⟨v1, v2, ⟨x0, x1, x2, x3⟩, hl, hkk⟩ := HV.out h0
  have mp := mvOk_p v2
  have hTS : ∀ v ∈ rs, tsB cs.length (-1) v.ts = true := fun v hv => by
    simp only [mvOk, Bool.and_eq_true, decide_eq_true_eq, List.all_eq_true] at v2
    exact (v2.2.2.2.1 v hv).2.1
  subst h0
  have hck : ck = cs.length := v1.ck
  have hrk : rk = rs.length := v1.rk
  subst hck; subst hrk
  have hcn := mp.cl
  have HM := hid v1; have HP := hid mp; have HTS := hid hTS; have HX := hid (And.intro x0 (And.intro x1 (And.intro x2 x3))); have HL := hid hl; have HK := hid hkk
  clear v1 v2 x0 x1 x2 x3 hl hkk mp hTS HV
  have r0 := BM.out.cell (j := 0) rfl
  have r1 := BM.out.cell (j := 1) rfl
  have r2 := BM.out.cell (j := 2) rfl
  have r3 := BM.out.cell (j := 3) rfl
  have r4 := BM.out.cell (j := 4) rfl
  have p0 := BK.out.cell (j := 0) rfl
  have p1 := BK.out.cell (j := 1) rfl
  have p2 := BK.out.cell (j := 2) rfl
  have p3 := BK.out.cell (j := 3) rfl
  go_wp2_with fail
  clear r0 r1 r2 r3 r4 p0 p1 p2 p3
  go_at_call 42
  refine (anyInf_c (HM.out.below HB.out) HP.out HTS.out (HX.out.1.below HB.out) (HX.out.2.1.below HB.out) (HX.out.2.2.1.below HB.out) (HX.out.2.2.2.below HB.out) HL.out HK.out hL1).mono ?_
  rintro e w2 ⟨rfl, hb2⟩
  replace HB := hid (HB.out.trans (hb2.mono HB.out.size)); replace BM := hid (BM.out.below hb2); replace BK := hid (BK.out.below hb2); replace OB := hid (OB.out.below hb2)
  clear hb2
  obtain ⟨ib, hib⟩ : ∃ t, (bdR rs l0 l1 ++ bdC 0 cs l2 l3).any infB = t := ⟨_, rfl⟩
  rw [hib]
  have HIB := hid hib
  clear hib
  cases ib
  case true =>
    obtain ⟨hz, z0, z1, z2, zf⟩ := OB.out
    go_wp2
    exact bodyPost_ret (v := .tuple #[.slice none 0 0, .agg #[.bool false, .slice none 0 0, .slice none 0 0], .int .i64 8]) (by simp [results, Tryz.results17, go_sem, z0, z1, z2]) rfl ⟨below_st HB.out (by omega), .inr (.inl ⟨rfl, HIB.out, rfl⟩)⟩
  have r3 := BM.out.cell (j := 3) rfl
  go_wp2_with fail
  clear r3
  go_at_call 35
  refine (noughts_c hcn).mono ?_
  rintro e w3 ⟨BL, rfl, hBL, hb3, hrk3, hrq3⟩
  have hOB := OB.out.z
  have hBL2 : w.heap.size ≤ BL := Nat.le_trans HB.out.size hBL
  have hBLO : w.heap.size + 1 + 1 < BL := Nat.lt_of_lt_of_le hOB hBL
  replace HB := hid (HB.out.trans (hb3.mono HB.out.size)); replace BM := hid (BM.out.below hb3); replace BK := hid (BK.out.below hb3); replace OB := hid (OB.out.below hb3)
  have RK := hid hrk3; have RQ := hid hrq3
  clear hb3 hrk3 hrq3 hOB hBL
  go_wp2_with fail
  go_at_call 36
  refine (rOf_c (z := 0) (by decide) (by decide)).mono ?_
  rintro e w4 ⟨s9, x9, n9, c9, f9, y9, m9, d9, g9, rfl, hb4, hq4⟩
  have hBL4 : BL < w4.heap.size := Nat.lt_of_lt_of_le RK.out.z hb4.size
  go_upto_region 7 with fail
  have hbn := below_alloc (below_alloc (Below.refl w4.heap.size w4) (.cells #[.slice (some ⟨BL, 0, none⟩) cs.length cs.length] 29)) (.cells #[.bool s9, .slice x9 n9 c9, .slice y9 m9 d9] 24)
  have hb45 := hb4.trans (hbn.mono hb4.size)
  have BXL : Bk ((w4.alloc (.cells #[.slice (some ⟨BL, 0, none⟩) cs.length cs.length] 29)).alloc (.cells #[.bool s9, .slice x9 n9 c9, .slice y9 m9 d9] 24)) w4.heap.size [.slice (some ⟨BL, 0, none⟩) cs.length cs.length] 29 := (bk_new w4 [.slice (some ⟨BL, 0, none⟩) cs.length cs.length] 29).below (below_alloc (Below.refl _ _) _)
  have BXR : Bk ((w4.alloc (.cells #[.slice (some ⟨BL, 0, none⟩) cs.length cs.length] 29)).alloc (.cells #[.bool s9, .slice x9 n9 c9, .slice y9 m9 d9] 24)) (w4.heap.size + 1) [.bool s9, .slice x9 n9 c9, .slice y9 m9 d9] 24 := by
    have := bk_new (w4.alloc (.cells #[.slice (some ⟨BL, 0, none⟩) cs.length cs.length] 29)) [.bool s9, .slice x9 n9 c9, .slice y9 m9 d9] 24
    rw [size_alloc1] at this; exact this
  replace HB := hid (HB.out.trans (hb45.mono HB.out.size)); replace BM := hid (BM.out.below hb45); replace BK := hid (BK.out.below hb45); replace OB := hid (OB.out.below hb45)
  have CI : Hid (CmI (KC L) (2 * L + 2) cs.length BL w4.heap.size (w4.heap.size + 1) [] ((w4.alloc (.cells #[.slice (some ⟨BL, 0, none⟩) cs.length cs.length] 29)).alloc (.cells #[.bool s9, .slice x9 n9 c9, .slice y9 m9 d9] 24))) := ⟨BXL, RK.out.below hb45, (RQ.out.below hb45).mono (by unfold KC; omega), ⟨s9, x9, n9, c9, f9, y9, m9, d9, g9, BXR.sx, (hq4.below hbn).mono (by unfold KC; omega)⟩, fun _ => lo_zero (by omega), lo_zero (by omega)⟩
  have hz5 := BXR.lt
  clear hb4 hq4 hbn hb45 BXL BXR RK RQ
  generalize hw5 : ((w4.alloc (.cells #[.slice (some ⟨BL, 0, none⟩) cs.length cs.length] 29)).alloc (.cells #[.bool s9, .slice x9 n9 c9, .slice y9 m9 d9] 24)) = w5 at *
  clear hw5
  generalize w4.heap.size = xl at *
  have r0 := BM.out.cell (j := 0) rfl
  have r1 := BM.out.cell (j := 1) rfl
  have r2 := BM.out.cell (j := 2) rfl
  have r3 := BM.out.cell (j := 3) rfl
  have r4 := BM.out.cell (j := 4) rfl
  have p0 := BK.out.cell (j := 0) rfl
  have p1 := BK.out.cell (j := 1) rfl
  have p2 := BK.out.cell (j := 2) rfl
  have p3 := BK.out.cell (j := 3) rfl
  go_wp2_with fail
  clear r0 r1 r2 r3 r4 p0 p1 p2 p3
  go_at_call 43
  have hF : ∀ k, (k = BL ∨ k = xl + 1) → w.heap.size ≤ k ∧ k < w5.heap.size := fun k hk => by rcases hk with rfl | rfl <;> exact ⟨by omega, by omega⟩
  refine (through_c (w0 := w) (F := fun k => k = BL ∨ k = xl + 1) (I := CmI (KC L) (2 * L + 2) cs.length BL xl (xl + 1)) HB.out hF HM.out HP.out HTS.out HX.out.1 HX.out.2.1 HX.out.2.2.1 HX.out.2.2.2 HL.out HK.out hL1 (fun _ _ => rfl) (fun l W W' h hb => h.below hb) (fun l b B W hlen hts hnf hbW hsz hI hB => vComb_c hlen hts hnf hI hB (by omega) hL2 (by unfold KC; omega) (by unfold KC; omega) hcn (by omega) (by omega) (by omega)) CI.out).mono ?_
  rintro e w6 ⟨rfl, hf, hI⟩
  obtain ⟨hxl, hrk, hrq, ⟨s7, x7, n7, c7, f7, y7, m7, d7, g7, hsx, hrn⟩, _, _⟩ := hI
  have HB6 := hid (Fr.below HB.out hf (fun k hk => (hF k hk).1))
  have OB6 := hid (OB.out.fr hf (fun e => by rcases e with e | e <;> omega))
  have RQ := hid hrq; have RN := hid hrn; have RK := hid hrk
  have e0 := hxl.cell (j := 0) rfl
  have v0 := hsx.x0; have v1 := hsx.x1; have v2 := hsx.x2
  clear hf hxl hrk hrq hsx hrn HB OB CI hF
  go_upto_region 8 with fail
  have hbd := Below.drew (Below.refl w6.heap.size w6)
  replace HB6 := hid (HB6.out.trans (hbd.mono HB6.out.size)); replace OB6 := hid (OB6.out.below hbd); replace RQ := hid (RQ.out.below hbd); replace RN := hid (RN.out.below hbd); replace RK := hid (RK.out.below hbd)
  clear hbd
  refine wp_region_phase (S := (fun w' => w'.cell? ⟨xl, 0, none⟩ = some (.slice (some ⟨BL, 0, none⟩) cs.length cs.length) ∧ w'.cell? ⟨xl + 1, 0, none⟩ = some (.bool s7) ∧ w'.cell? ⟨xl + 1, 1, none⟩ = some (.slice x7 n7 c7) ∧ w'.cell? ⟨xl + 1, 2, none⟩ = some (.slice y7 m7 d7))) 3 (by kernel_rfl) ⟨kCd e0, kCd v0, kCd v1, kCd v2⟩ (fun hHeld => ?_)
  clear e0 v0 v1 v2
  generalize w6.drew = w7 at *
  refine wpAnyP_takeA (i := 0) (v := ?_) rfl (by kernel_rfl) (by kernel_rfl) (by kernel_rfl) (by kernel_rfl) (by kernel_rfl) (by kernel_rfl) (fun _ _ _ h => h) (Or.inl ⟨by rfl, ?_⟩) (by assumption) ?_
  rotate_left
  (focus (intro w0 hSw; (try dsimp only at hSw); go_simp <;> with_reducible rfl))
  simp only [List.getElem_toArray, List.getElem_cons_zero, Act.put, List.setIfInBounds_toArray, List.set_cons_zero, List.set_cons_succ]
  refine wpAnyP_takeA (i := 1) (v := ?_) rfl (by kernel_rfl) (by kernel_rfl) (by kernel_rfl) (by kernel_rfl) (by kernel_rfl) (by kernel_rfl) (fun _ _ _ h => h) (Or.inl ⟨by rfl, ?_⟩) (by assumption) ?_
  rotate_left
  (focus (intro w0 hSw; (try dsimp only at hSw); go_simp <;> with_reducible rfl))
  simp only [List.getElem_toArray, List.getElem_cons_succ, List.getElem_cons_zero, Act.put, List.setIfInBounds_toArray, List.set_cons_zero, List.set_cons_succ]
  refine wpAnyP_skim (i := 2) (v := ?_) rfl (by kernel_rfl) (by kernel_rfl) (by kernel_rfl) (by kernel_rfl) (fun _ _ _ h => h) (Or.inl ⟨by rfl, ?_⟩) (fun _ => by assumption) ?_
  rotate_left
  (focus (intro w0 hSw; go_simp <;> with_reducible rfl))
  simp only [List.getElem_toArray, List.getElem_cons_succ, List.getElem_cons_zero, Act.put, List.setIfInBounds_toArray, List.set_cons_zero, List.set_cons_succ]
  refine wpAnyP_ready (rs := [3]) (by kernel_rfl) (by simp) ?_
  refine AllReadyP.cons (o := _) rfl (fun K hK => ?_) ?_
  rotate_left
  exact AllReadyP.nil
  obtain ⟨hz, z0, z1, z2, zf⟩ := OB6.out
  go_simp
  refine hK.out _ _ (fun h => by cases h) (fun _ => ?_)
  clear hK K
  try simp only [Act.put, List.setIfInBounds_toArray, List.set_cons_zero, List.set_cons_succ]
  refine wpAnyP_skim (i := 4) (v := ?_) rfl (by kernel_rfl) (by kernel_rfl) (by kernel_rfl) (by kernel_rfl) (fun _ _ _ h => h) (Or.inl ⟨by rfl, ?_⟩) (fun h => by cases h) ?_
  rotate_left
  (focus (intro w0 hSw; go_simp <;> with_reducible rfl))
  simp only [List.getElem_toArray, List.getElem_cons_succ, List.getElem_cons_zero, Act.put, List.setIfInBounds_toArray, List.set_cons_zero, List.set_cons_succ]
  refine wpAnyP_done (by kernel_rfl) ?_ _
  clear hHeld
  have FG := hid (sx_fr (u0 := .bool s7) (u1 := .slice x7 n7 c7) (u2 := .slice y7 m7 d7) OB6.out.sx)
  go_wp2
  exact bodyPost_ret (v := .tuple #[.slice (some ⟨BL, 0, none⟩) cs.length cs.length, .agg #[.bool s7, .slice x7 n7 c7, .slice y7 m7 d7], .int .i64 0]) (by simp [results, Tryz.results17, go_sem, z0, z1, z2]) rfl ⟨below_st HB6.out (by omega), .inr (.inr ⟨rfl, HIB.out, BL, s7, x7, n7, c7, f7, y7, m7, d7, g7, ⟨hBL2, by simpa [World.setCell] using RK.out.z⟩, rfl, (RQ.out.fr FG.out (by omega)).rf (by simp) (fun j hj => range_map_get _ _ _ hj), OB6.out.rn RN.out⟩)⟩
end Go.Proofs.YtedpomledbgpoaaGreat
namespace Go.Proofs.YtedpomledbgpoaaGreat
open Go.RowKit

/-- Does what a certificate makes show that there is no point? -/
def vldB (er : Int) (n : Nat) (bs : List BV) : Bool := decide (er = 0) && (!bs.any infB && (!bs.any negB && (((List.range n).map (cmbQ bs)).all (fun q => decide (q = 0)) && decide (0 < cmbS bs))))
theorem pos_sg {L w s x n c f y m d g} {q : Rat} (h : Rn L w s x n c f y m d g q) : (!s && !decide (n = 0)) = decide (0 < q) := by
  have h1 := h.sg; have h2 := h.q_zero
  rw [h1]
  by_cases hz : q = 0
  · have := h2.1 hz
    subst hz
    simp [this]
  · have h3 : n ≠ 0 := fun e => hz (h2.2 e)
    rcases (show q < 0 ∨ 0 < q by grind) with h | h
    · have : ¬ (0 < q) := fun e => by grind
      simp [h, this]
    · have : ¬ (q < 0) := fun e => by grind
      simp [this, h, h3]
set_option maxRecDepth 100000 in
set_option maxHeartbeats 8000000 in
theorem fValid_v {w : World} {L : Nat} {M : Mo} {off : Rat} {cs : List CV} {rs : List RV} {a0 a1 a2 a3 : Option Addr} {k0 c0 k1 c1 k2 c2 k3 c3 : Nat} {X0 X1 X2 X3 : Nat → Nm} {l0 l1 l2 l3 : List Rat} {er : Int} (hW : MoW w M) (h0 : Rl w a0 k0 X0) (h1 : Rl w a1 k1 X1) (h2 : Rl w a2 k2 X2) (h3 : Rl w a3 k3 X3) (hk0 : k0 ≤ 1048576) (hk1 : k1 ≤ 1048576) (hk2 : k2 ≤ 1048576) (hk3 : k3 ≤ 1048576) (he : cbE M k0 X0 k1 X1 k2 X2 k3 X3 = er)
    (hv : er = 0 → MoV L w M off cs rs ∧ mvOk cs rs = true ∧ (Rf L w a0 l0 ∧ Rf L w a1 l1 ∧ Rf L w a2 l2 ∧ Rf L w a3 l3) ∧ (l0.length = k0 ∧ l1.length = k1 ∧ l2.length = k2 ∧ l3.length = k3) ∧ (k0 = rs.length ∧ k1 = rs.length ∧ k2 = cs.length ∧ k3 = cs.length)) (hL1 : 4 ≤ L) (hL2 : L ≤ 100) :
    Calls Tryz.prog 9 #[M.val, .agg #[.slice a0 k0 c0, .slice a1 k1 c1, .slice a2 k2 c2, .slice a3 k3 c3]] w fun e w' => e = .returned (.tuple #[.bool (decide (chkE M = 0) && vldB er cs.length (bdA cs rs l0 l1 l2 l3)), .int .i64 (chkE M)]) ∧ Below w.heap.size w w' := by
  have CC := hid (fun W (hW2 : Below w.heap.size w W) => check_w (hW.below hW2))
  have CB := hid (fun W (hW2 : Below w.heap.size w W) => fCombine_v (c0 := c0) (c1 := c1) (c2 := c2) (c3 := c3) (hW.below hW2) (h0.below hW2) (h1.below hW2) (h2.below hW2) (h3.below hW2) hk0 hk1 hk2 hk3 he (fun h => by obtain ⟨v1, v2, ⟨x0, x1, x2, x3⟩, hl, hk⟩ := hv h; exact ⟨v1.below hW2, v2, ⟨x0.below hW2, x1.below hW2, x2.below hW2, x3.below hW2⟩, hl, hk⟩) hL1 hL2)
  have HV := hid hv
  clear hW h0 h1 h2 h3 he hv
  obtain ⟨e0, he0⟩ : ∃ e, chkE M = e := ⟨_, rfl⟩
  rw [he0] at CC ⊢
  clear he0
  obtain ⟨bs, hbs⟩ : ∃ t, bdA cs rs l0 l1 l2 l3 = t := ⟨_, rfl⟩
  rw [hbs] at CB ⊢
  have HBS := hid hbs
  clear hbs
  obtain ⟨⟨s, x, n, c, f, y, m, d, g⟩, ca, ck, cc, C, ra, rk, rc, R⟩ := M
  replace CC : Hid (∀ W, Below w.heap.size w W → Calls Tryz.prog 26 #[.agg #[.bool s, .slice x n c, .slice y m d, .slice ca ck cc, .slice ra rk rc]] W fun r w' => r = .returned (.int .i64 e0) ∧ Below W.heap.size W w') := CC
  replace CB : Hid (∀ W, Below w.heap.size w W → Calls Tryz.prog 17 #[.agg #[.bool s, .slice x n c, .slice y m d, .slice ca ck cc, .slice ra rk rc], .agg #[.slice a0 k0 c0, .slice a1 k1 c1, .slice a2 k2 c2, .slice a3 k3 c3]] W fun e w' => CmbAns L W w' e er cs bs) := CB
  show Calls Tryz.prog 9 #[.agg #[.bool s, .slice x n c, .slice y m d, .slice ca ck cc, .slice ra rk rc], .agg #[.slice a0 k0 c0, .slice a1 k1 c1, .slice a2 k2 c2, .slice a3 k3 c3]] w _
  have hb := below_alloc (below_alloc (Below.refl w.heap.size w) (.cells #[.bool s, .slice x n c, .slice y m d, .slice ca ck cc, .slice ra rk rc] 28)) (.cells #[.slice a0 k0 c0, .slice a1 k1 c1, .slice a2 k2 c2, .slice a3 k3 c3] 31)
  have B1 : Bk ((w.alloc (.cells #[.bool s, .slice x n c, .slice y m d, .slice ca ck cc, .slice ra rk rc] 28)).alloc (.cells #[.slice a0 k0 c0, .slice a1 k1 c1, .slice a2 k2 c2, .slice a3 k3 c3] 31)) w.heap.size [.bool s, .slice x n c, .slice y m d, .slice ca ck cc, .slice ra rk rc] 28 := (bk_new w [.bool s, .slice x n c, .slice y m d, .slice ca ck cc, .slice ra rk rc] 28).below (below_alloc (Below.refl _ _) _)
  have B2 : Bk ((w.alloc (.cells #[.bool s, .slice x n c, .slice y m d, .slice ca ck cc, .slice ra rk rc] 28)).alloc (.cells #[.slice a0 k0 c0, .slice a1 k1 c1, .slice a2 k2 c2, .slice a3 k3 c3] 31)) (w.heap.size + 1) [.slice a0 k0 c0, .slice a1 k1 c1, .slice a2 k2 c2, .slice a3 k3 c3] 31 := by
    have := bk_new (w.alloc (.cells #[.bool s, .slice x n c, .slice y m d, .slice ca ck cc, .slice ra rk rc] 28)) [.slice a0 k0 c0, .slice a1 k1 c1, .slice a2 k2 c2, .slice a3 k3 c3] 31
    rw [size_alloc1] at this; exact this
  have HB := hid hb; have BM := hid B1; have BK := hid B2
  clear hb B1 B2
  go_enter Tryz.func9, Tryz.ntmps9
  go_upto_region 1 with fail
  generalize ((w.alloc (.cells #[.bool s, .slice x n c, .slice y m d, .slice ca ck cc, .slice ra rk rc] 28)).alloc (.cells #[.slice a0 k0 c0, .slice a1 k1 c1, .slice a2 k2 c2, .slice a3 k3 c3] 31)) = w1 at *
  have r0 := BM.out.cell (j := 0) rfl
  have r1 := BM.out.cell (j := 1) rfl
  have r2 := BM.out.cell (j := 2) rfl
  have r3 := BM.out.cell (j := 3) rfl
  have r4 := BM.out.cell (j := 4) rfl
  go_wp2_with fail
  clear r0 r1 r2 r3 r4
  go_at_call 26
  refine (CC.out _ HB.out).mono ?_
  rintro e w2 ⟨rfl, hb2⟩
  replace HB := hid (HB.out.trans (hb2.mono HB.out.size)); replace BM := hid (BM.out.below hb2); replace BK := hid (BK.out.below hb2)
  clear hb2
  clear CC
  by_cases h0 : e0 = 0
  case neg =>
    have h1 : (e0 != 0) = true := by simpa using h0
    have HE : Hid (decide (e0 = 0) = false) := decide_eq_false h0
    clear h0
    go_wp2
    go_ret2
    exact ⟨by rw [HE.out]; rfl, HB.out⟩
  subst h0
  have r0 := BM.out.cell (j := 0) rfl
  have r1 := BM.out.cell (j := 1) rfl
  have r2 := BM.out.cell (j := 2) rfl
  have r3 := BM.out.cell (j := 3) rfl
  have r4 := BM.out.cell (j := 4) rfl
  have p0 := BK.out.cell (j := 0) rfl
  have p1 := BK.out.cell (j := 1) rfl
  have p2 := BK.out.cell (j := 2) rfl
  have p3 := BK.out.cell (j := 3) rfl
  go_wp2_with fail
  clear r0 r1 r2 r3 r4
  clear p0 p1 p2 p3
  go_at_call 17
  refine (CB.out _ HB.out).mono ?_
  clear CB
  rintro e w3 ⟨hb3, ⟨h0, rfl⟩ | ⟨h0, hinf, rfl⟩ | ⟨h0, hinf, B, s7, x7, n7, c7, f7, y7, m7, d7, g7, hBB, rfl, hrf, hrn⟩⟩
  · have h1 : (er != 0) = true := by simpa using h0
    have HE : Hid (vldB er cs.length bs = false) := by show _ = _; rw [vldB, decide_eq_false h0]; rfl
    have HF := hid (below_alloc (HB.out.trans (hb3.mono HB.out.size)) (.cells #[.bool false, .slice none 0 0, .slice none 0 0] 24))
    clear h0 hb3 HB BM BK
    go_wp2
    go_ret2
    exact ⟨by rw [HE.out]; rfl, HF.out⟩
  · have HE : Hid (vldB er cs.length bs = false) := by show _ = _; rw [vldB, hinf]; simp
    have HF := hid (below_alloc (HB.out.trans (hb3.mono HB.out.size)) (.cells #[.bool false, .slice none 0 0, .slice none 0 0] 24))
    clear h0 hinf hb3 HB BM BK
    go_wp2
    go_ret2
    exact ⟨by rw [HE.out]; rfl, HF.out⟩
  · clear hBB
    have HInf := hid hinf
    have HPS := hid (pos_sg hrn)
    obtain ⟨v1, v2, ⟨x0, x1, x2, x3⟩, hl, hkk⟩ := HV.out h0
    have mp := mvOk_p v2
    have hTS : ∀ v ∈ rs, tsB cs.length (-1) v.ts = true := fun v hv => by
      simp only [mvOk, Bool.and_eq_true, decide_eq_true_eq, List.all_eq_true] at v2
      exact (v2.2.2.2.1 v hv).2.1
    subst h0
    have hcn := mp.cl
    have hbn := below_alloc (Below.refl w3.heap.size w3) (.cells #[.bool s7, .slice x7 n7 c7, .slice y7 m7 d7] 24)
    have hb34 := hb3.trans (hbn.mono hb3.size)
    have BR := hid (bk_new w3 [.bool s7, .slice x7 n7 c7, .slice y7 m7 d7] 24)
    replace BR : Hid (Bk (w3.alloc (.cells #[.bool s7, .slice x7 n7 c7, .slice y7 m7 d7] 24)) w3.heap.size [.bool s7, .slice x7 n7 c7, .slice y7 m7 d7] 24) := BR
    have RF := hid (hrf.below hbn)
    replace HB := hid (HB.out.trans (hb34.mono HB.out.size)); replace BM := hid (BM.out.below hb34); replace BK := hid (BK.out.below hb34)
    clear hb34
    have CN := hid (fun W (hW2 : Below w.heap.size w W) => anyBelow_c (e1 := c0) (e2 := c1) (e3 := c2) (e4 := c3) (v1.below hW2) mp hTS (x0.below hW2) (x1.below hW2) (x2.below hW2) (x3.below hW2) hl hkk hL1)
    rw [show bdR rs l0 l1 ++ bdC 0 cs l2 l3 = bs from HBS.out] at CN
    replace CN : Hid (∀ W, Below w.heap.size w W → Calls Tryz.prog 27 #[.agg #[.bool s, .slice x n c, .slice y m d, .slice ca ck cc, .slice ra rk rc], .agg #[.slice a0 k0 c0, .slice a1 k1 c1, .slice a2 k2 c2, .slice a3 k3 c3]] W fun e w' => e = .returned (.bool (bs.any negB)) ∧ Below W.heap.size W w') := CN
    have HLn : Hid (((List.range cs.length).map (cmbQ bs)).length = cs.length) := by show _ = _; simp
    clear hinf v1 v2 x0 x1 x2 x3 hl hkk mp hTS HV hb3 hbn hrf hrn
    have r0 := BM.out.cell (j := 0) rfl
    have r1 := BM.out.cell (j := 1) rfl
    have r2 := BM.out.cell (j := 2) rfl
    have r3 := BM.out.cell (j := 3) rfl
    have r4 := BM.out.cell (j := 4) rfl
    have p0 := BK.out.cell (j := 0) rfl
    have p1 := BK.out.cell (j := 1) rfl
    have p2 := BK.out.cell (j := 2) rfl
    have p3 := BK.out.cell (j := 3) rfl
    go_wp2_with fail
    clear r0 r1 r2 r3 r4
    clear p0 p1 p2 p3
    go_at_call 27
    generalize w3.alloc (.cells #[.bool s7, .slice x7 n7 c7, .slice y7 m7 d7] 24) = w4 at *
    refine (CN.out _ HB.out).mono ?_
    rintro e w5 ⟨rfl, hb5⟩
    replace HB := hid (HB.out.trans (hb5.mono HB.out.size)); replace BR := hid (BR.out.below hb5); replace RF := hid (RF.out.below hb5)
    clear hb5 BM BK CN
    obtain ⟨nb, hnb⟩ : ∃ t, bs.any negB = t := ⟨_, rfl⟩
    rw [hnb]
    have HNB := hid hnb
    clear hnb
    cases nb
    case true =>
      have HE : Hid (vldB 0 cs.length bs = false) := by show _ = _; rw [vldB, HNB.out]; simp
      clear HNB HInf HPS HBS
      go_wp2
      go_ret2
      exact ⟨by rw [HE.out]; rfl, HB.out⟩
    go_wp2_with fail
    go_at_call 28
    refine (fallZero_c RF.out HLn.out (by omega)).mono ?_
    rintro e w6 ⟨rfl, hb6⟩
    replace HB := hid (HB.out.trans (hb6.mono HB.out.size)); replace BR := hid (BR.out.below hb6)
    clear hb6 RF
    obtain ⟨az, haz⟩ : ∃ t, ((List.range cs.length).map (cmbQ bs)).all (fun q => decide (q = 0)) = t := ⟨_, rfl⟩
    rw [haz]
    have HAZ := hid haz
    clear haz
    cases az
    case false =>
      have HE : Hid (vldB 0 cs.length bs = false) := by show _ = _; rw [vldB, HAZ.out]; simp
      clear HAZ HNB HInf HPS HBS
      go_wp2
      go_ret2
      exact ⟨by rw [HE.out]; rfl, HB.out⟩
    have HE : Hid (vldB 0 cs.length bs = (!s7 && !decide (n7 = 0))) := by show _ = _; rw [vldB, HAZ.out, HNB.out, HInf.out, HPS.out]; simp
    clear HAZ HNB HInf HPS HBS
    have b0 := BR.out.cell (j := 0) rfl; have b1 := BR.out.cell (j := 1) rfl; have b2 := BR.out.cell (j := 2) rfl
    cases s7
    case true =>
      go_wp2
      go_ret2
      exact ⟨by rw [HE.out]; rfl, HB.out⟩
    go_wp2_with fail
    go_at_call 29
    refine (fisZero_c _ _ _ _ _ _ _ _).mono ?_
    rintro e w7 ⟨rfl, hb7⟩
    replace HB := hid (HB.out.trans (hb7.mono HB.out.size))
    clear hb7 b0 b1 b2 BR
    go_wp2
    go_ret2
    exact ⟨by rw [HE.out]; rfl, HB.out⟩
end Go.Proofs.YtedpomledbgpoaaGreat
namespace Go.Proofs.YtedpomledbgpoaaGreat
open Go.RowKit

/-- A list of noughts but for one place. -/
def ulst (n : Nat) (j : Option Nat) : List Rat := (List.range n).map (fun i => if j = some i then 1 else 0)
theorem ulst_len (n : Nat) (j : Option Nat) : (ulst n j).length = n := by simp [ulst]
def hdN (l : List Int) : Option Nat := l.head?.map Int.toNat
/-- The column, the row whose bounds are told to be crossed. -/
def jcl (cs : List CV) : Option Nat := hdN (crl (cvC cs) cs.length)
def jrw (cs : List CV) (rs : List RV) : Option Nat := if crl (cvC cs) cs.length = [] then hdN (crl (cvR rs) rs.length) else none
/-- What Crossing answers. -/
def CsgAns (w w' : World) (e : Ending) (er : Int) (cs : List CV) (rs : List RV) : Prop := Below w.heap.size w w' ∧
  ((er ≠ 0 ∧ e = .returned (.tuple #[.agg #[.slice none 0 0, .slice none 0 0, .slice none 0 0, .slice none 0 0], .int .i64 er])) ∨ (er = 0 ∧ (crl (cvC cs) cs.length = [] ∧ crl (cvR rs) rs.length = []) ∧ e = .returned (.tuple #[.agg #[.slice none 0 0, .slice none 0 0, .slice none 0 0, .slice none 0 0], .int .i64 9])) ∨
    (er = 0 ∧ ¬ (crl (cvC cs) cs.length = [] ∧ crl (cvR rs) rs.length = []) ∧ ∃ B0 B1 B2 B3, e = .returned (.tuple #[.agg #[.slice (some ⟨B0, 0, none⟩) rs.length rs.length, .slice (some ⟨B1, 0, none⟩) rs.length rs.length, .slice (some ⟨B2, 0, none⟩) cs.length cs.length, .slice (some ⟨B3, 0, none⟩) cs.length cs.length], .int .i64 0]) ∧
      (Rf 4 w' (some ⟨B0, 0, none⟩) (ulst rs.length (jrw cs rs)) ∧ Rf 4 w' (some ⟨B1, 0, none⟩) (ulst rs.length (jrw cs rs)) ∧ Rf 4 w' (some ⟨B2, 0, none⟩) (ulst cs.length (jcl cs)) ∧ Rf 4 w' (some ⟨B3, 0, none⟩) (ulst cs.length (jcl cs)))))
theorem rq_ulst {L w B n Q} {j : Option Nat} (h : Rq L w B n Q) (hq : ∀ i, i < n → Q i = if j = some i then 1 else 0) : Rf L w (some ⟨B, 0, none⟩) (ulst n j) :=
  h.rf (ulst_len n j) (fun i hi => by rw [ulst, range_map_get _ _ _ hi, hq i hi])
theorem crl_head {B : Nat → Bool} {n : Nat} {z : Int} {l : List Int} (h : crl B n = z :: l) : ∃ j : Nat, z = (j : Int) ∧ j < n := by
  have hz : z ∈ crl B n := by rw [h]; exact List.mem_cons_self
  have key : ∀ n, ∀ z ∈ crl B n, ∃ j : Nat, z = (j : Int) ∧ j < n := by
    intro n
    induction n with
    | zero => intro z hz; cases hz
    | succ n ih =>
      intro z hz
      simp only [crl, List.mem_append] at hz
      rcases hz with hz | hz
      · obtain ⟨j, h1, h2⟩ := ih z hz
        exact ⟨j, h1, by omega⟩
      · split at hz
        · exact ⟨n, by simpa using hz, by omega⟩
        · cases hz
  exact key n z hz
set_option maxRecDepth 100000 in
set_option maxHeartbeats 8000000 in
theorem fCrossing_v {w : World} {L : Nat} {M : Mo} {off : Rat} {cs : List CV} {rs : List RV} {er : Int} (hW : MoW w M) (hm : M.ck ≤ 64 → M.rk ≤ 64 → MoB M) (he : chkE M = er) (hv : er = 0 → MoV L w M off cs rs ∧ mvOk cs rs = true) :
    Calls Tryz.prog 14 #[M.val] w fun e w' => CsgAns w w' e er cs rs := by
  have CC := hid (fun W (hW2 : Below w.heap.size w W) => crossed_c (hW.below hW2) hm)
  have HV : Hid (er = 0 → (crl (ccB M.C) M.ck = crl (cvC cs) cs.length ∧ crl (rcB M.R) M.rk = crl (cvR rs) rs.length) ∧ M.ck = cs.length ∧ M.rk = rs.length ∧ cs.length ≤ 64 ∧ rs.length ≤ 64) := fun h => by obtain ⟨v1, v2⟩ := hv h; have mp := mvOk_p v2; exact ⟨v1.crl, v1.ck, v1.rk, mp.cl, mp.rl⟩
  clear hW hm hv
  unfold CrAns at CC
  rw [he] at CC
  clear he
  obtain ⟨⟨s, x, n, c, f, y, m, d, g⟩, ca, ck, cc, C, ra, rk, rc, R⟩ := M
  dsimp only at HV CC
  obtain ⟨lx, hlx⟩ : ∃ t, crl (ccB C) ck = t := ⟨_, rfl⟩
  obtain ⟨ly, hly⟩ : ∃ t, crl (rcB R) rk = t := ⟨_, rfl⟩
  rw [hlx, hly] at CC HV
  have hxl : lx.length ≤ ck := by rw [← hlx]; exact crl_len _ _
  have hyl : ly.length ≤ rk := by rw [← hly]; exact crl_len _ _
  clear hlx hly
  replace CC : Hid (∀ W, Below w.heap.size w W → Calls Tryz.prog 34 #[.agg #[.bool s, .slice x n c, .slice y m d, .slice ca ck cc, .slice ra rk rc]] W fun e w' => (er ≠ 0 ∧ e = .returned (.tuple #[.slice none 0 0, .slice none 0 0, .int .i64 er]) ∧ Below W.heap.size W w') ∨ (er = 0 ∧ ∃ xa xc ya yc, e = .returned (.tuple #[.slice xa lx.length xc, .slice ya ly.length yc, .int .i64 0]) ∧ Below W.heap.size W w' ∧ Il w' xa lx ∧ Il w' ya ly)) := CC
  show Calls Tryz.prog 14 #[.agg #[.bool s, .slice x n c, .slice y m d, .slice ca ck cc, .slice ra rk rc]] w _
  have hb := below_alloc (below_alloc (Below.refl w.heap.size w) (.cells #[.bool s, .slice x n c, .slice y m d, .slice ca ck cc, .slice ra rk rc] 28)) (.cells #[.slice none 0 0, .slice none 0 0, .slice none 0 0, .slice none 0 0] 31)
  have B1 : Bk ((w.alloc (.cells #[.bool s, .slice x n c, .slice y m d, .slice ca ck cc, .slice ra rk rc] 28)).alloc (.cells #[.slice none 0 0, .slice none 0 0, .slice none 0 0, .slice none 0 0] 31)) w.heap.size [.bool s, .slice x n c, .slice y m d, .slice ca ck cc, .slice ra rk rc] 28 := (bk_new w [.bool s, .slice x n c, .slice y m d, .slice ca ck cc, .slice ra rk rc] 28).below (below_alloc (Below.refl _ _) _)
  have B2 : Bk ((w.alloc (.cells #[.bool s, .slice x n c, .slice y m d, .slice ca ck cc, .slice ra rk rc] 28)).alloc (.cells #[.slice none 0 0, .slice none 0 0, .slice none 0 0, .slice none 0 0] 31)) (w.heap.size + 1) [.slice none 0 0, .slice none 0 0, .slice none 0 0, .slice none 0 0] 31 := by
    have := bk_new (w.alloc (.cells #[.bool s, .slice x n c, .slice y m d, .slice ca ck cc, .slice ra rk rc] 28)) [.slice none 0 0, .slice none 0 0, .slice none 0 0, .slice none 0 0] 31
    rw [size_alloc1] at this; exact this
  have HB := hid hb; have BM := hid B1; have BZ := hid B2
  clear hb B1 B2
  go_enter Tryz.func14, Tryz.ntmps14
  go_upto_region 1 with fail
  generalize ((w.alloc (.cells #[.bool s, .slice x n c, .slice y m d, .slice ca ck cc, .slice ra rk rc] 28)).alloc (.cells #[.slice none 0 0, .slice none 0 0, .slice none 0 0, .slice none 0 0] 31)) = w1 at *
  have r0 := BM.out.cell (j := 0) rfl
  have r1 := BM.out.cell (j := 1) rfl
  have r2 := BM.out.cell (j := 2) rfl
  have r3 := BM.out.cell (j := 3) rfl
  have r4 := BM.out.cell (j := 4) rfl
  go_wp2_with fail
  clear r0 r1 r2 r3 r4
  go_at_call 34
  refine (CC.out _ HB.out).mono ?_
  clear CC
  rintro e w2 (⟨h0, rfl, hb2⟩ | ⟨h0, xa, xc, ya, yc, rfl, hb2, hxa, hya⟩)
  · replace HB := hid (HB.out.trans (hb2.mono HB.out.size)); replace BM := hid (BM.out.below hb2); replace BZ := hid (BZ.out.below hb2)
    clear hb2
    have h1 : (er != 0) = true := by simpa using h0
    have H0 := hid h0
    have l0 := BZ.out.cell (j := 0) rfl
    have l1 := BZ.out.cell (j := 1) rfl
    have l2 := BZ.out.cell (j := 2) rfl
    have l3 := BZ.out.cell (j := 3) rfl
    have ff := BZ.out.frozen
    obtain ⟨hx1, hx2, hx3⟩ := st_new [.slice none 0 0, .slice none 0 0, .slice none 0 0, .slice none 0 0] BZ.out (nou_list (fun u hu q => by simp at hu; subst hu; simp)) HB.out (Nat.le_succ _)
    have HX : Hid (CsgAns w (stl (w.heap.size + 1) 0 [.slice none 0 0, .slice none 0 0, .slice none 0 0, .slice none 0 0] w2) (.returned (.tuple #[.agg #[.slice none 0 0, .slice none 0 0, .slice none 0 0, .slice none 0 0], .int .i64 er])) er cs rs) := ⟨hx1, .inl ⟨H0.out, rfl⟩⟩
    clear hx1 hx2 hx3 HB BM BZ HV
    go_wp2
    exact bodyPost_ret (v := .tuple #[.agg #[.slice none 0 0, .slice none 0 0, .slice none 0 0, .slice none 0 0], .int .i64 er]) (by simp [results, Tryz.results14, go_sem, l0, l1, l2, l3]) rfl HX.out
  · replace HB := hid (HB.out.trans (hb2.mono HB.out.size)); replace BM := hid (BM.out.below hb2); replace BZ := hid (BZ.out.below hb2)
    clear hb2
    obtain ⟨⟨ex, ey⟩, e1, e2, e3, e4⟩ := HV.out h0
    subst h0
    rw [e1] at hxl; rw [e2] at hyl
    subst e1; subst e2
    have HX := hid hxa; have HY := hid hya; have EX := hid ex.symm; have EY := hid ey.symm
    clear hxa hya ex ey HV
    by_cases hz : lx.length + ly.length = 0
    case pos =>
      have hx0 : lx.length = 0 := by omega
      have hy0 : ly.length = 0 := by omega
      rw [hx0, hy0]
      have l0 := BZ.out.cell (j := 0) rfl
      have l1 := BZ.out.cell (j := 1) rfl
      have l2 := BZ.out.cell (j := 2) rfl
      have l3 := BZ.out.cell (j := 3) rfl
      have ff := BZ.out.frozen
      obtain ⟨hx1, hx2, hx3⟩ := st_new [.slice none 0 0, .slice none 0 0, .slice none 0 0, .slice none 0 0] BZ.out (nou_list (fun u hu q => by simp at hu; subst hu; simp)) HB.out (Nat.le_succ _)
      have HX : Hid (CsgAns w (stl (w.heap.size + 1) 0 [.slice none 0 0, .slice none 0 0, .slice none 0 0, .slice none 0 0] w2) (.returned (.tuple #[.agg #[.slice none 0 0, .slice none 0 0, .slice none 0 0, .slice none 0 0], .int .i64 9])) 0 cs rs) := ⟨hx1, .inr (.inl ⟨rfl, ⟨EX.out.trans (List.eq_nil_of_length_eq_zero (by omega)), EY.out.trans (List.eq_nil_of_length_eq_zero (by omega))⟩, rfl⟩)⟩
      clear hx1 hx2 hx3 HB BM BZ
      go_wp2
      exact bodyPost_ret (v := .tuple #[.agg #[.slice none 0 0, .slice none 0 0, .slice none 0 0, .slice none 0 0], .int .i64 9]) (by simp [results, Tryz.results14, go_sem, l0, l1, l2, l3]) rfl HX.out
    have hz1 : (((lx.length : Nat) : Int) + ((ly.length : Nat) : Int) == 0) = false := by simp; omega
    have s3 := BM.out.cell (j := 3) rfl; have s4 := BM.out.cell (j := 4) rfl
    go_upto_region 6 with fail
    go_quiet (fail)
    clear s3 s4 hz1
    have hbq := below_drewN (Below.refl w2.heap.size w2) nq
    generalize w2.drewN nq = w3 at *
    replace HB := hid (HB.out.trans (hbq.mono HB.out.size)); replace BM := hid (BM.out.below hbq); replace BZ := hid (BZ.out.below hbq)
    replace HX := hid (HX.out.below hbq); replace HY := hid (HY.out.below hbq)
    clear hbq
    have hw3 : w.heap.size + 1 < w3.heap.size := BZ.out.lt
    go_wp2_with fail
    go_at_call 35
    refine (noughts_c e4).mono ?_
    rintro e v0 ⟨B0, rfl, hB0, hb0, hk0, hq0⟩
    replace HB := hid (HB.out.trans (hb0.mono HB.out.size)); replace BM := hid (BM.out.below hb0); replace BZ := hid (BZ.out.below hb0)
    have RK0 := hid hk0; have RQ0 := hid hq0
    have z0 := hk0.z
    have hs0 := hb0.size
    have HI0 := hid (hb0)
    clear hb0 hk0 hq0
    go_wp2_with fail
    go_at_call 35
    refine (noughts_c e4).mono ?_
    rintro e v1 ⟨B1, rfl, hB1, hb1, hk1, hq1⟩
    replace HB := hid (HB.out.trans (hb1.mono HB.out.size)); replace BM := hid (BM.out.below hb1); replace BZ := hid (BZ.out.below hb1)
    replace RK0 := hid (RK0.out.below hb1); replace RQ0 := hid (RQ0.out.below hb1)
    have RK1 := hid hk1; have RQ1 := hid hq1
    have z1 := hk1.z
    have hs1 := hb1.size
    replace HI0 := hid (HI0.out.trans (hb1.mono HI0.out.size))
    clear hb1 hk1 hq1
    go_wp2_with fail
    go_at_call 35
    refine (noughts_c e3).mono ?_
    rintro e v2 ⟨B2, rfl, hB2, hb2, hk2, hq2⟩
    replace HB := hid (HB.out.trans (hb2.mono HB.out.size)); replace BM := hid (BM.out.below hb2); replace BZ := hid (BZ.out.below hb2)
    replace RK0 := hid (RK0.out.below hb2); replace RQ0 := hid (RQ0.out.below hb2)
    replace RK1 := hid (RK1.out.below hb2); replace RQ1 := hid (RQ1.out.below hb2)
    have RK2 := hid hk2; have RQ2 := hid hq2
    have z2 := hk2.z
    have hs2 := hb2.size
    replace HI0 := hid (HI0.out.trans (hb2.mono HI0.out.size))
    clear hb2 hk2 hq2
    go_wp2_with fail
    go_at_call 35
    refine (noughts_c e3).mono ?_
    rintro e v3 ⟨B3, rfl, hB3, hb3, hk3, hq3⟩
    replace HB := hid (HB.out.trans (hb3.mono HB.out.size)); replace BM := hid (BM.out.below hb3); replace BZ := hid (BZ.out.below hb3)
    replace RK0 := hid (RK0.out.below hb3); replace RQ0 := hid (RQ0.out.below hb3)
    replace RK1 := hid (RK1.out.below hb3); replace RQ1 := hid (RQ1.out.below hb3)
    replace RK2 := hid (RK2.out.below hb3); replace RQ2 := hid (RQ2.out.below hb3)
    have RK3 := hid hk3; have RQ3 := hid hq3
    have z3 := hk3.z
    have hs3 := hb3.size
    replace HI0 := hid (HI0.out.trans (hb3.mono HI0.out.size))
    clear hb3 hk3 hq3
    have hbn := below_alloc (Below.refl v3.heap.size v3) (.cells #[.slice (some ⟨B0, 0, none⟩) rs.length rs.length, .slice (some ⟨B1, 0, none⟩) rs.length rs.length, .slice (some ⟨B2, 0, none⟩) cs.length cs.length, .slice (some ⟨B3, 0, none⟩) cs.length cs.length] 31)
    have BC := hid (bk_new v3 [.slice (some ⟨B0, 0, none⟩) rs.length rs.length, .slice (some ⟨B1, 0, none⟩) rs.length rs.length, .slice (some ⟨B2, 0, none⟩) cs.length cs.length, .slice (some ⟨B3, 0, none⟩) cs.length cs.length] 31)
    replace BC : Hid (Bk (v3.alloc (.cells #[.slice (some ⟨B0, 0, none⟩) rs.length rs.length, .slice (some ⟨B1, 0, none⟩) rs.length rs.length, .slice (some ⟨B2, 0, none⟩) cs.length cs.length, .slice (some ⟨B3, 0, none⟩) cs.length cs.length] 31)) v3.heap.size [.slice (some ⟨B0, 0, none⟩) rs.length rs.length, .slice (some ⟨B1, 0, none⟩) rs.length rs.length, .slice (some ⟨B2, 0, none⟩) cs.length cs.length, .slice (some ⟨B3, 0, none⟩) cs.length cs.length] 31) := BC
    replace HI0 := hid (HI0.out.trans (hbn.mono HI0.out.size))
    replace HB := hid (HB.out.trans (hbn.mono HB.out.size)); replace BM := hid (BM.out.below hbn); replace BZ := hid (BZ.out.below hbn)
    replace RK0 := hid (RK0.out.below hbn); replace RQ0 := hid (RQ0.out.below hbn)
    replace RK1 := hid (RK1.out.below hbn); replace RQ1 := hid (RQ1.out.below hbn)
    replace RK2 := hid (RK2.out.below hbn); replace RQ2 := hid (RQ2.out.below hbn)
    replace RK3 := hid (RK3.out.below hbn); replace RQ3 := hid (RQ3.out.below hbn)
    clear hbn
    by_cases hx : lx.length = 0
    case pos =>
      have hy : ¬ ly.length = 0 := by omega
      have i0' : ¬ ((0 : Int) < ((lx.length : Nat) : Int)) := by omega
      have HJ : Hid (jcl cs = none) := by show _ = _; rw [jcl, EX.out, List.eq_nil_of_length_eq_zero hx]; rfl
      have HJ2 : Hid (∀ z l, ly = z :: l → jrw cs rs = some z.toNat) := fun z l h => by rw [jrw, EX.out, if_pos (List.eq_nil_of_length_eq_zero hx), EY.out, h]; rfl
      have HN : Hid (¬ (crl (cvC cs) cs.length = [] ∧ crl (cvR rs) rs.length = [])) := fun h => hy (by rw [← EY.out, h.2]; rfl)
      obtain ⟨z, l, hl⟩ : ∃ z l, ly = z :: l := by
        cases hc : ly with
        | nil => exact absurd (by rw [hc]; rfl) hy
        | cons z l => exact ⟨z, l, rfl⟩
      obtain ⟨jn, rfl, hjn⟩ := crl_head (EY.out.trans hl)
      obtain ⟨bi, oi, hxe, hci⟩ := HY.out 0 (jn : Int) (by rw [hl]; rfl)
      replace hci : w3.cell? ⟨bi, oi, none⟩ = some (.int .i64 jn) := hci
      subst hxe
      have hbi : bi < w3.heap.size := World.block_lt_of_cell? w3 _ hci
      have hci2 := kCb HI0.out hci
      have i1' : (0 : Int) < ((ly.length : Nat) : Int) := by rw [hl, List.length_cons]; omega
      have i3' : 0 < ly.length := by omega
      have i2' : ((jn : Nat) : Int) < ((rs.length : Nat) : Int) := by omega
      have HLL := hid hl
      clear hci hl
      go_upto_region 10 with fail
      generalize hv4 : v3.alloc (.cells #[.slice (some ⟨B0, 0, none⟩) rs.length rs.length, .slice (some ⟨B1, 0, none⟩) rs.length rs.length, .slice (some ⟨B2, 0, none⟩) cs.length cs.length, .slice (some ⟨B3, 0, none⟩) cs.length cs.length] 31) = v4 at *
      clear hv4
      generalize v3.heap.size = xc at *
      have c0 := BC.out.cell (j := 0) rfl; have c1 := BC.out.cell (j := 1) rfl
      refine wp_region_phase (S := (fun w' => w'.cell? ⟨xc, 0, none⟩ = some (.slice (some ⟨B0, 0, none⟩) rs.length rs.length) ∧ w'.cell? ⟨xc, 1, none⟩ = some (.slice (some ⟨B1, 0, none⟩) rs.length rs.length) ∧ w'.cell? ⟨bi, oi, none⟩ = some (.int .i64 jn))) 15 (by kernel_rfl) ⟨kCd c0, kCd c1, kCd hci2⟩ (fun hHeld => ?_)
      clear c0 c1 hci2
      have hbd := Below.drew (Below.refl v4.heap.size v4)
      replace HB := hid (HB.out.trans (hbd.mono HB.out.size)); replace BZ := hid (BZ.out.below hbd); replace BC := hid (BC.out.below hbd)
      replace RK0 := hid (RK0.out.below hbd); replace RQ0 := hid (RQ0.out.below hbd)
      replace RK1 := hid (RK1.out.below hbd); replace RQ1 := hid (RQ1.out.below hbd)
      replace RK2 := hid (RK2.out.below hbd); replace RQ2 := hid (RQ2.out.below hbd)
      replace RK3 := hid (RK3.out.below hbd); replace RQ3 := hid (RQ3.out.below hbd)
      clear hbd
      generalize v4.drew = v5 at *
      refine wpAnyP_skim (i := 0) (v := ?_) rfl (by kernel_rfl) (by kernel_rfl) (by kernel_rfl) (by kernel_rfl) (fun _ _ _ h => h) (Or.inl ⟨by rfl, ?_⟩) (fun _ => by assumption) ?_
      rotate_left
      (focus (intro w0 hSw; go_simp <;> with_reducible rfl))
      simp only [List.getElem_toArray, List.getElem_cons_zero, Act.put, List.setIfInBounds_toArray, List.set_cons_zero, List.set_cons_succ]
      refine wpAnyP_takeA (i := 1) (v := ?_) rfl (by kernel_rfl) (by kernel_rfl) (by kernel_rfl) (by kernel_rfl) (by kernel_rfl) (by kernel_rfl) (fun _ _ _ h => h) (Or.inl ⟨by rfl, ?_⟩) (by assumption) ?_
      rotate_left
      (focus (intro w0 hSw; (try dsimp only at hSw); go_simp <;> with_reducible rfl))
      simp only [List.getElem_toArray, List.getElem_cons_succ, List.getElem_cons_zero, Act.put, List.setIfInBounds_toArray, List.set_cons_zero, List.set_cons_succ]
      refine wpAnyP_skim (i := 2) (v := ?_) rfl (by kernel_rfl) (by kernel_rfl) (by kernel_rfl) (by kernel_rfl) (fun _ _ _ h => h) (Or.inl ⟨by rfl, ?_⟩) (fun _ => by assumption) ?_
      rotate_left
      (focus (intro w0 hSw; go_simp <;> with_reducible rfl))
      simp only [List.getElem_toArray, List.getElem_cons_succ, List.getElem_cons_zero, Act.put, List.setIfInBounds_toArray, List.set_cons_zero, List.set_cons_succ]
      refine wpAnyP_skim (i := 3) (v := ?_) rfl (by kernel_rfl) (by kernel_rfl) (by kernel_rfl) (by kernel_rfl) (fun _ _ _ h => h) (Or.inl ⟨by rfl, ?_⟩) (fun _ => by assumption) ?_
      rotate_left
      (focus (intro w0 hSw; go_simp <;> with_reducible rfl))
      simp only [List.getElem_toArray, List.getElem_cons_succ, List.getElem_cons_zero, Act.put, List.setIfInBounds_toArray, List.set_cons_zero, List.set_cons_succ]
      refine wpAnyP_takeA (i := 4) (v := ?_) rfl (by kernel_rfl) (by kernel_rfl) (by kernel_rfl) (by kernel_rfl) (by kernel_rfl) (by kernel_rfl) (fun _ _ _ h => h) (Or.inl ⟨by rfl, ?_⟩) (by assumption) ?_
      rotate_left
      (focus (intro w0 hSw; (try dsimp only at hSw); go_simp <;> with_reducible rfl))
      simp only [List.getElem_toArray, List.getElem_cons_succ, List.getElem_cons_zero, Act.put, List.setIfInBounds_toArray, List.set_cons_zero, List.set_cons_succ]
      refine wpAnyP_skim (i := 5) (v := ?_) rfl (by kernel_rfl) (by kernel_rfl) (by kernel_rfl) (by kernel_rfl) (fun _ _ _ h => h) (Or.inl ⟨by rfl, ?_⟩) (fun _ => by assumption) ?_
      rotate_left
      (focus (intro w0 hSw; go_simp <;> with_reducible rfl))
      simp only [List.getElem_toArray, List.getElem_cons_succ, List.getElem_cons_zero, Act.put, List.setIfInBounds_toArray, List.set_cons_zero, List.set_cons_succ]
      refine wpAnyP_takeA (i := 6) (v := ?_) rfl (by kernel_rfl) (by kernel_rfl) (by kernel_rfl) (by kernel_rfl) (by kernel_rfl) (by kernel_rfl) (fun _ _ _ h => h) (Or.inl ⟨by rfl, ?_⟩) (by assumption) ?_
      rotate_left
      (focus (intro w0 hSw; (try dsimp only at hSw); go_simp <;> with_reducible rfl))
      simp only [List.getElem_toArray, List.getElem_cons_succ, List.getElem_cons_zero, Act.put, List.setIfInBounds_toArray, List.set_cons_zero, List.set_cons_succ]
      refine wpAnyP_skim (i := 7) (v := ?_) rfl (by kernel_rfl) (by kernel_rfl) (by kernel_rfl) (by kernel_rfl) (fun _ _ _ h => h) (Or.inl ⟨by rfl, ?_⟩) (fun _ => by assumption) ?_
      rotate_left
      (focus (intro w0 hSw; go_simp <;> with_reducible rfl))
      simp only [List.getElem_toArray, List.getElem_cons_succ, List.getElem_cons_zero, Act.put, List.setIfInBounds_toArray, List.set_cons_zero, List.set_cons_succ]
      refine wpAnyP_skim (i := 8) (v := ?_) rfl (by kernel_rfl) (by kernel_rfl) (by kernel_rfl) (by kernel_rfl) (fun _ _ _ h => h) (Or.inl ⟨by rfl, ?_⟩) (fun _ => by assumption) ?_
      rotate_left
      (focus (intro w0 hSw; go_simp <;> with_reducible rfl))
      simp only [List.getElem_toArray, List.getElem_cons_succ, List.getElem_cons_zero, Act.put, List.setIfInBounds_toArray, List.set_cons_zero, List.set_cons_succ]
      refine wpAnyP_takeA (i := 9) (v := ?_) rfl (by kernel_rfl) (by kernel_rfl) (by kernel_rfl) (by kernel_rfl) (by kernel_rfl) (by kernel_rfl) (fun _ _ _ h => h) (Or.inl ⟨by rfl, ?_⟩) (by assumption) ?_
      rotate_left
      (focus (intro w0 hSw; (try dsimp only at hSw); go_simp <;> with_reducible rfl))
      simp only [List.getElem_toArray, List.getElem_cons_succ, List.getElem_cons_zero, Act.put, List.setIfInBounds_toArray, List.set_cons_zero, List.set_cons_succ]
      refine wpAnyP_ready (rs := [10]) (by kernel_rfl) (by simp) ?_
      refine AllReadyP.cons (o := _) rfl (fun K hK => ?_) ?_
      rotate_left
      exact AllReadyP.nil
      go_simp
      go_at_call 36
      refine (rOf_c (z := 1) (by decide) (by decide)).mono ?_
      rintro e v6 ⟨s8, x8, n8, c8, f8, y8, m8, d8, g8, rfl, hbj, hqj⟩
      (try go_wp2_with fail)
      have t8 := And.intro (kCb hbj hHeld.1) (And.intro (kCb hbj hHeld.2.1) (kCb hbj hHeld.2.2))
      refine hK.out _ _ (fun _ => t8) (fun hS9 => ?_)
      clear hK K hS9
      try simp only [Act.put, List.setIfInBounds_toArray, List.set_cons_zero, List.set_cons_succ]
      replace HB := hid (HB.out.trans (hbj.mono HB.out.size)); replace BZ := hid (BZ.out.below hbj); replace BC := hid (BC.out.below hbj)
      replace RK0 := hid (RK0.out.below hbj); replace RQ0 := hid (RQ0.out.below hbj)
      replace RK1 := hid (RK1.out.below hbj); replace RQ1 := hid (RQ1.out.below hbj)
      replace RK2 := hid (RK2.out.below hbj); replace RQ2 := hid (RQ2.out.below hbj)
      replace RK3 := hid (RK3.out.below hbj); replace RQ3 := hid (RQ3.out.below hbj)
      have RN8 := hid (show Rn 4 v6 s8 x8 n8 c8 f8 y8 m8 d8 g8 1 from hqj)
      clear hbj hqj
      refine wpAnyP_ready (rs := [11]) (by kernel_rfl) (by simp) ?_
      refine AllReadyP.cons (o := _) rfl (fun K hK => ?_) ?_
      rotate_left
      exact AllReadyP.nil
      go_simp
      go_at_call 36
      refine (rOf_c (z := 1) (by decide) (by decide)).mono ?_
      rintro e v7 ⟨s9, x9, n9, c9, f9, y9, m9, d9, g9, rfl, hbj, hqj⟩
      (try go_wp2_with fail)
      have t9 := And.intro (kCb hbj t8.1) (And.intro (kCb hbj t8.2.1) (kCb hbj t8.2.2))
      refine hK.out _ _ (fun _ => t9) (fun hS9 => ?_)
      clear hK K hS9
      try simp only [Act.put, List.setIfInBounds_toArray, List.set_cons_zero, List.set_cons_succ]
      replace HB := hid (HB.out.trans (hbj.mono HB.out.size)); replace BZ := hid (BZ.out.below hbj); replace BC := hid (BC.out.below hbj)
      replace RK0 := hid (RK0.out.below hbj); replace RQ0 := hid (RQ0.out.below hbj)
      replace RK1 := hid (RK1.out.below hbj); replace RQ1 := hid (RQ1.out.below hbj)
      replace RK2 := hid (RK2.out.below hbj); replace RQ2 := hid (RQ2.out.below hbj)
      replace RK3 := hid (RK3.out.below hbj); replace RQ3 := hid (RQ3.out.below hbj)
      replace RN8 := hid (RN8.out.below hbj)
      have RN9 := hid (show Rn 4 v7 s9 x9 n9 c9 f9 y9 m9 d9 g9 1 from hqj)
      clear hbj hqj
      refine wpAnyP_ready (rs := [12]) (by kernel_rfl) (by simp) ?_
      refine AllReadyP.cons (o := _) rfl (fun K hK => ?_) ?_
      rotate_left
      exact AllReadyP.nil
      go_simp
      refine hK.out _ _ (fun _ => t9) (fun hS9 => ?_)
      clear hK K hS9
      try simp only [Act.put, List.setIfInBounds_toArray, List.set_cons_zero, List.set_cons_succ]
      refine wpAnyP_ready (rs := [13]) (by kernel_rfl) (by simp) ?_
      refine AllReadyP.cons (o := _) rfl (fun K hK => ?_) ?_
      rotate_left
      exact AllReadyP.nil
      have hk := RK0.out
      have tf := hk.fz
      obtain ⟨_, k0, _⟩ := hk.has (jn * 3) (by omega)
      obtain ⟨_, k1, _⟩ := hk.has (jn * 3 + 1) (by omega)
      obtain ⟨_, k2, _⟩ := hk.has (jn * 3 + 2) (by omega)
      have FG := hid (rk_fr (s := s8) (x := x8) (k := n8) (c := c8) (y := y8) (m := m8) (d := d8) hk hjn)
      obtain ⟨R1a, R2a⟩ := rq_st (i' := rs.length) (j := jn) (Q' := fun i => if some jn = some i then 1 else 0) hk RQ0.out hjn (by rw [if_pos rfl]; exact RN8.out) (fun j' h1 h2 => ⟨h1, by show (if _ then _ else _) = _; rw [if_neg (fun e => h2 (Option.some.inj e).symm)]⟩)
      have QK0 := hid R2a
      clear R1a R2a hk
      go_simp
      have t0 := And.intro (FG.out.cell (show ¬ (xc = B0) by omega) t9.1) (And.intro (FG.out.cell (show ¬ (xc = B0) by omega) t9.2.1) (FG.out.cell (show ¬ (bi = B0) by omega) t9.2.2))
      refine hK.out _ _ (fun _ => t0) (fun hS9 => ?_)
      clear hK K hS9
      try simp only [Act.put, List.setIfInBounds_toArray, List.set_cons_zero, List.set_cons_succ]
      have HBs := hid (below_at (o := jn * 3) (u0 := .bool s8) (u1 := .slice x8 n8 c8) (u2 := .slice y8 m8 d8) HB.out (show w.heap.size ≤ B0 by omega))
      replace BZ := hid (FG.out.bk BZ.out (by omega)); replace BC := hid (FG.out.bk BC.out (by omega)); replace RN9 := hid (FG.out.rn RN9.out)
      replace RK1 := hid (RK1.out.fr FG.out (by omega)); replace RQ1 := hid (RQ1.out.fr FG.out (by omega))
      replace RK2 := hid (RK2.out.fr FG.out (by omega)); replace RQ2 := hid (RQ2.out.fr FG.out (by omega))
      replace RK3 := hid (RK3.out.fr FG.out (by omega)); replace RQ3 := hid (RQ3.out.fr FG.out (by omega))
      clear RK0 RQ0 FG k0 k1 k2 tf HB
      generalize ((v7.setCell ⟨B0, jn * 3, none⟩ (.bool s8)).setCell ⟨B0, jn * 3 + 1, none⟩ (.slice x8 n8 c8)).setCell ⟨B0, jn * 3 + 2, none⟩ (.slice y8 m8 d8) = v8 at *
      refine wpAnyP_ready (rs := [14]) (by kernel_rfl) (by simp) ?_
      refine AllReadyP.cons (o := _) rfl (fun K hK => ?_) ?_
      rotate_left
      exact AllReadyP.nil
      go_simp
      refine hK.out _ _ (fun _ => t0) (fun hS9 => ?_)
      clear hK K hS9
      try simp only [Act.put, List.setIfInBounds_toArray, List.set_cons_zero, List.set_cons_succ]
      refine wpAnyP_ready (rs := [15]) (by kernel_rfl) (by simp) ?_
      refine AllReadyP.cons (o := _) rfl (fun K hK => ?_) ?_
      rotate_left
      exact AllReadyP.nil
      have hk := RK1.out
      have tf := hk.fz
      obtain ⟨_, k0, _⟩ := hk.has (jn * 3) (by omega)
      obtain ⟨_, k1, _⟩ := hk.has (jn * 3 + 1) (by omega)
      obtain ⟨_, k2, _⟩ := hk.has (jn * 3 + 2) (by omega)
      have FG := hid (rk_fr (s := s9) (x := x9) (k := n9) (c := c9) (y := y9) (m := m9) (d := d9) hk hjn)
      obtain ⟨R1a, R2a⟩ := rq_st (i' := rs.length) (j := jn) (Q' := fun i => if some jn = some i then 1 else 0) hk RQ1.out hjn (by rw [if_pos rfl]; exact RN9.out) (fun j' h1 h2 => ⟨h1, by show (if _ then _ else _) = _; rw [if_neg (fun e => h2 (Option.some.inj e).symm)]⟩)
      have QK1 := hid R2a
      clear R1a R2a hk
      go_simp
      refine hK.out _ _ (fun h => by cases h) (fun _ => ?_)
      clear hK K
      try simp only [Act.put, List.setIfInBounds_toArray, List.set_cons_zero, List.set_cons_succ]
      have HBf := hid (below_at (o := jn * 3) (u0 := .bool s9) (u1 := .slice x9 n9 c9) (u2 := .slice y9 m9 d9) HBs.out (show w.heap.size ≤ B1 by omega))
      replace BZ := hid (FG.out.bk BZ.out (by omega)); replace BC := hid (FG.out.bk BC.out (by omega)); replace QK0 := hid (QK0.out.fr FG.out (by omega))
      replace RQ2 := hid (RQ2.out.fr FG.out (by omega))
      replace RQ3 := hid (RQ3.out.fr FG.out (by omega))
      clear RK1 RK2 RK3
      clear RQ1 FG k0 k1 k2 tf HBs RN8 RN9 t0 t8 t9 hHeld
      refine wpAnyP_done (by kernel_rfl) ?_ _
      generalize ((v8.setCell ⟨B1, jn * 3, none⟩ (.bool s9)).setCell ⟨B1, jn * 3 + 1, none⟩ (.slice x9 n9 c9)).setCell ⟨B1, jn * 3 + 2, none⟩ (.slice y9 m9 d9) = v9 at *
      have b0 := BC.out.cell (j := 0) rfl
      have b1 := BC.out.cell (j := 1) rfl
      have b2 := BC.out.cell (j := 2) rfl
      have b3 := BC.out.cell (j := 3) rfl
      have l0 := BZ.out.cell (j := 0) rfl
      have l1 := BZ.out.cell (j := 1) rfl
      have l2 := BZ.out.cell (j := 2) rfl
      have l3 := BZ.out.cell (j := 3) rfl
      have ff := BZ.out.frozen
      obtain ⟨hx1, hx2, hx3⟩ := st_new [.slice (some ⟨B0, 0, none⟩) rs.length rs.length, .slice (some ⟨B1, 0, none⟩) rs.length rs.length, .slice (some ⟨B2, 0, none⟩) cs.length cs.length, .slice (some ⟨B3, 0, none⟩) cs.length cs.length] BZ.out (nou_list (fun u hu q => by simp at hu; subst hu; simp)) HBf.out (Nat.le_succ _)
      have FZ : ∀ {B i Q}, B ≠ w.heap.size + 1 → Rq 4 v9 B i Q → Rq 4 (stl (w.heap.size + 1) 0 [.slice (some ⟨B0, 0, none⟩) rs.length rs.length, .slice (some ⟨B1, 0, none⟩) rs.length rs.length, .slice (some ⟨B2, 0, none⟩) cs.length cs.length, .slice (some ⟨B3, 0, none⟩) cs.length cs.length] v9) B i Q := fun {B i Q} hne h j hj => by
        obtain ⟨t, ⟨a0, a1, a2⟩, h2⟩ := h j hj
        exact ⟨t, ⟨(World.cell?_of_block (hx3 B hne)).trans a0, (World.cell?_of_block (hx3 B hne)).trans a1, (World.cell?_of_block (hx3 B hne)).trans a2⟩, h2.kp hx2⟩
      have HXX : Hid (CsgAns w (stl (w.heap.size + 1) 0 [.slice (some ⟨B0, 0, none⟩) rs.length rs.length, .slice (some ⟨B1, 0, none⟩) rs.length rs.length, .slice (some ⟨B2, 0, none⟩) cs.length cs.length, .slice (some ⟨B3, 0, none⟩) cs.length cs.length] v9) (.returned (.tuple #[.agg #[.slice (some ⟨B0, 0, none⟩) rs.length rs.length, .slice (some ⟨B1, 0, none⟩) rs.length rs.length, .slice (some ⟨B2, 0, none⟩) cs.length cs.length, .slice (some ⟨B3, 0, none⟩) cs.length cs.length], .int .i64 0])) 0 cs rs) := ⟨hx1, .inr (.inr ⟨rfl, HN.out, B0, B1, B2, B3, rfl, rq_ulst (FZ (by omega) QK0.out) (fun i hi => by rw [show jrw cs rs = some jn from by rw [HJ2.out _ _ HLL.out]; rfl]), rq_ulst (FZ (by omega) QK1.out) (fun i hi => by rw [show jrw cs rs = some jn from by rw [HJ2.out _ _ HLL.out]; rfl]), rq_ulst (FZ (by omega) RQ2.out) (fun i hi => by rw [HJ.out]; rfl), rq_ulst (FZ (by omega) RQ3.out) (fun i hi => by rw [HJ.out]; rfl)⟩)⟩
      clear hx1 hx2 hx3 FZ HBf BM BZ BC RQ2 RQ3 QK0 QK1
      go_wp2
      exact bodyPost_ret (v := .tuple #[.agg #[.slice (some ⟨B0, 0, none⟩) rs.length rs.length, .slice (some ⟨B1, 0, none⟩) rs.length rs.length, .slice (some ⟨B2, 0, none⟩) cs.length cs.length, .slice (some ⟨B3, 0, none⟩) cs.length cs.length], .int .i64 0]) (by simp [results, Tryz.results14, go_sem, l0, l1, l2, l3]) rfl HXX.out
    have i0' : (0 : Int) < ((lx.length : Nat) : Int) := by omega
    have HJ : Hid (jrw cs rs = none) := by show _ = _; rw [jrw, EX.out, if_neg (fun h => hx (by rw [h]; rfl))]
    have HJ2 : Hid (∀ z l, lx = z :: l → jcl cs = some z.toNat) := fun z l h => by rw [jcl, EX.out, h]; rfl
    have HN : Hid (¬ (crl (cvC cs) cs.length = [] ∧ crl (cvR rs) rs.length = [])) := fun h => hx (by rw [← EX.out, h.1]; rfl)
    obtain ⟨z, l, hl⟩ : ∃ z l, lx = z :: l := by
      cases hc : lx with
      | nil => exact absurd (by rw [hc]; rfl) hx
      | cons z l => exact ⟨z, l, rfl⟩
    obtain ⟨jn, rfl, hjn⟩ := crl_head (EX.out.trans hl)
    obtain ⟨bi, oi, hxe, hci⟩ := HX.out 0 (jn : Int) (by rw [hl]; rfl)
    replace hci : w3.cell? ⟨bi, oi, none⟩ = some (.int .i64 jn) := hci
    subst hxe
    have hbi : bi < w3.heap.size := World.block_lt_of_cell? w3 _ hci
    have hci2 := kCb HI0.out hci
    have i1' : (0 : Int) < ((lx.length : Nat) : Int) := by rw [hl, List.length_cons]; omega
    have i3' : 0 < lx.length := by omega
    have i2' : ((jn : Nat) : Int) < ((cs.length : Nat) : Int) := by omega
    have HLL := hid hl
    clear hci hl
    go_upto_region 9 with fail
    generalize hv4 : v3.alloc (.cells #[.slice (some ⟨B0, 0, none⟩) rs.length rs.length, .slice (some ⟨B1, 0, none⟩) rs.length rs.length, .slice (some ⟨B2, 0, none⟩) cs.length cs.length, .slice (some ⟨B3, 0, none⟩) cs.length cs.length] 31) = v4 at *
    clear hv4
    generalize v3.heap.size = xc at *
    have c0 := BC.out.cell (j := 2) rfl; have c1 := BC.out.cell (j := 3) rfl
    refine wp_region_phase (S := (fun w' => w'.cell? ⟨xc, 2, none⟩ = some (.slice (some ⟨B2, 0, none⟩) cs.length cs.length) ∧ w'.cell? ⟨xc, 3, none⟩ = some (.slice (some ⟨B3, 0, none⟩) cs.length cs.length) ∧ w'.cell? ⟨bi, oi, none⟩ = some (.int .i64 jn))) 15 (by kernel_rfl) ⟨kCd c0, kCd c1, kCd hci2⟩ (fun hHeld => ?_)
    clear c0 c1 hci2
    have hbd := Below.drew (Below.refl v4.heap.size v4)
    replace HB := hid (HB.out.trans (hbd.mono HB.out.size)); replace BZ := hid (BZ.out.below hbd); replace BC := hid (BC.out.below hbd)
    replace RK0 := hid (RK0.out.below hbd); replace RQ0 := hid (RQ0.out.below hbd)
    replace RK1 := hid (RK1.out.below hbd); replace RQ1 := hid (RQ1.out.below hbd)
    replace RK2 := hid (RK2.out.below hbd); replace RQ2 := hid (RQ2.out.below hbd)
    replace RK3 := hid (RK3.out.below hbd); replace RQ3 := hid (RQ3.out.below hbd)
    clear hbd
    generalize v4.drew = v5 at *
    refine wpAnyP_skim (i := 0) (v := ?_) rfl (by kernel_rfl) (by kernel_rfl) (by kernel_rfl) (by kernel_rfl) (fun _ _ _ h => h) (Or.inl ⟨by rfl, ?_⟩) (fun _ => by assumption) ?_
    rotate_left
    (focus (intro w0 hSw; go_simp <;> with_reducible rfl))
    simp only [List.getElem_toArray, List.getElem_cons_zero, Act.put, List.setIfInBounds_toArray, List.set_cons_zero, List.set_cons_succ]
    refine wpAnyP_takeA (i := 1) (v := ?_) rfl (by kernel_rfl) (by kernel_rfl) (by kernel_rfl) (by kernel_rfl) (by kernel_rfl) (by kernel_rfl) (fun _ _ _ h => h) (Or.inl ⟨by rfl, ?_⟩) (by assumption) ?_
    rotate_left
    (focus (intro w0 hSw; (try dsimp only at hSw); go_simp <;> with_reducible rfl))
    simp only [List.getElem_toArray, List.getElem_cons_succ, List.getElem_cons_zero, Act.put, List.setIfInBounds_toArray, List.set_cons_zero, List.set_cons_succ]
    refine wpAnyP_skim (i := 2) (v := ?_) rfl (by kernel_rfl) (by kernel_rfl) (by kernel_rfl) (by kernel_rfl) (fun _ _ _ h => h) (Or.inl ⟨by rfl, ?_⟩) (fun _ => by assumption) ?_
    rotate_left
    (focus (intro w0 hSw; go_simp <;> with_reducible rfl))
    simp only [List.getElem_toArray, List.getElem_cons_succ, List.getElem_cons_zero, Act.put, List.setIfInBounds_toArray, List.set_cons_zero, List.set_cons_succ]
    refine wpAnyP_skim (i := 3) (v := ?_) rfl (by kernel_rfl) (by kernel_rfl) (by kernel_rfl) (by kernel_rfl) (fun _ _ _ h => h) (Or.inl ⟨by rfl, ?_⟩) (fun _ => by assumption) ?_
    rotate_left
    (focus (intro w0 hSw; go_simp <;> with_reducible rfl))
    simp only [List.getElem_toArray, List.getElem_cons_succ, List.getElem_cons_zero, Act.put, List.setIfInBounds_toArray, List.set_cons_zero, List.set_cons_succ]
    refine wpAnyP_takeA (i := 4) (v := ?_) rfl (by kernel_rfl) (by kernel_rfl) (by kernel_rfl) (by kernel_rfl) (by kernel_rfl) (by kernel_rfl) (fun _ _ _ h => h) (Or.inl ⟨by rfl, ?_⟩) (by assumption) ?_
    rotate_left
    (focus (intro w0 hSw; (try dsimp only at hSw); go_simp <;> with_reducible rfl))
    simp only [List.getElem_toArray, List.getElem_cons_succ, List.getElem_cons_zero, Act.put, List.setIfInBounds_toArray, List.set_cons_zero, List.set_cons_succ]
    refine wpAnyP_skim (i := 5) (v := ?_) rfl (by kernel_rfl) (by kernel_rfl) (by kernel_rfl) (by kernel_rfl) (fun _ _ _ h => h) (Or.inl ⟨by rfl, ?_⟩) (fun _ => by assumption) ?_
    rotate_left
    (focus (intro w0 hSw; go_simp <;> with_reducible rfl))
    simp only [List.getElem_toArray, List.getElem_cons_succ, List.getElem_cons_zero, Act.put, List.setIfInBounds_toArray, List.set_cons_zero, List.set_cons_succ]
    refine wpAnyP_takeA (i := 6) (v := ?_) rfl (by kernel_rfl) (by kernel_rfl) (by kernel_rfl) (by kernel_rfl) (by kernel_rfl) (by kernel_rfl) (fun _ _ _ h => h) (Or.inl ⟨by rfl, ?_⟩) (by assumption) ?_
    rotate_left
    (focus (intro w0 hSw; (try dsimp only at hSw); go_simp <;> with_reducible rfl))
    simp only [List.getElem_toArray, List.getElem_cons_succ, List.getElem_cons_zero, Act.put, List.setIfInBounds_toArray, List.set_cons_zero, List.set_cons_succ]
    refine wpAnyP_skim (i := 7) (v := ?_) rfl (by kernel_rfl) (by kernel_rfl) (by kernel_rfl) (by kernel_rfl) (fun _ _ _ h => h) (Or.inl ⟨by rfl, ?_⟩) (fun _ => by assumption) ?_
    rotate_left
    (focus (intro w0 hSw; go_simp <;> with_reducible rfl))
    simp only [List.getElem_toArray, List.getElem_cons_succ, List.getElem_cons_zero, Act.put, List.setIfInBounds_toArray, List.set_cons_zero, List.set_cons_succ]
    refine wpAnyP_skim (i := 8) (v := ?_) rfl (by kernel_rfl) (by kernel_rfl) (by kernel_rfl) (by kernel_rfl) (fun _ _ _ h => h) (Or.inl ⟨by rfl, ?_⟩) (fun _ => by assumption) ?_
    rotate_left
    (focus (intro w0 hSw; go_simp <;> with_reducible rfl))
    simp only [List.getElem_toArray, List.getElem_cons_succ, List.getElem_cons_zero, Act.put, List.setIfInBounds_toArray, List.set_cons_zero, List.set_cons_succ]
    refine wpAnyP_takeA (i := 9) (v := ?_) rfl (by kernel_rfl) (by kernel_rfl) (by kernel_rfl) (by kernel_rfl) (by kernel_rfl) (by kernel_rfl) (fun _ _ _ h => h) (Or.inl ⟨by rfl, ?_⟩) (by assumption) ?_
    rotate_left
    (focus (intro w0 hSw; (try dsimp only at hSw); go_simp <;> with_reducible rfl))
    simp only [List.getElem_toArray, List.getElem_cons_succ, List.getElem_cons_zero, Act.put, List.setIfInBounds_toArray, List.set_cons_zero, List.set_cons_succ]
    refine wpAnyP_ready (rs := [10]) (by kernel_rfl) (by simp) ?_
    refine AllReadyP.cons (o := _) rfl (fun K hK => ?_) ?_
    rotate_left
    exact AllReadyP.nil
    go_simp
    go_at_call 36
    refine (rOf_c (z := 1) (by decide) (by decide)).mono ?_
    rintro e v6 ⟨s8, x8, n8, c8, f8, y8, m8, d8, g8, rfl, hbj, hqj⟩
    (try go_wp2_with fail)
    have t8 := And.intro (kCb hbj hHeld.1) (And.intro (kCb hbj hHeld.2.1) (kCb hbj hHeld.2.2))
    refine hK.out _ _ (fun _ => t8) (fun hS9 => ?_)
    clear hK K hS9
    try simp only [Act.put, List.setIfInBounds_toArray, List.set_cons_zero, List.set_cons_succ]
    replace HB := hid (HB.out.trans (hbj.mono HB.out.size)); replace BZ := hid (BZ.out.below hbj); replace BC := hid (BC.out.below hbj)
    replace RK0 := hid (RK0.out.below hbj); replace RQ0 := hid (RQ0.out.below hbj)
    replace RK1 := hid (RK1.out.below hbj); replace RQ1 := hid (RQ1.out.below hbj)
    replace RK2 := hid (RK2.out.below hbj); replace RQ2 := hid (RQ2.out.below hbj)
    replace RK3 := hid (RK3.out.below hbj); replace RQ3 := hid (RQ3.out.below hbj)
    have RN8 := hid (show Rn 4 v6 s8 x8 n8 c8 f8 y8 m8 d8 g8 1 from hqj)
    clear hbj hqj
    refine wpAnyP_ready (rs := [11]) (by kernel_rfl) (by simp) ?_
    refine AllReadyP.cons (o := _) rfl (fun K hK => ?_) ?_
    rotate_left
    exact AllReadyP.nil
    go_simp
    go_at_call 36
    refine (rOf_c (z := 1) (by decide) (by decide)).mono ?_
    rintro e v7 ⟨s9, x9, n9, c9, f9, y9, m9, d9, g9, rfl, hbj, hqj⟩
    (try go_wp2_with fail)
    have t9 := And.intro (kCb hbj t8.1) (And.intro (kCb hbj t8.2.1) (kCb hbj t8.2.2))
    refine hK.out _ _ (fun _ => t9) (fun hS9 => ?_)
    clear hK K hS9
    try simp only [Act.put, List.setIfInBounds_toArray, List.set_cons_zero, List.set_cons_succ]
    replace HB := hid (HB.out.trans (hbj.mono HB.out.size)); replace BZ := hid (BZ.out.below hbj); replace BC := hid (BC.out.below hbj)
    replace RK0 := hid (RK0.out.below hbj); replace RQ0 := hid (RQ0.out.below hbj)
    replace RK1 := hid (RK1.out.below hbj); replace RQ1 := hid (RQ1.out.below hbj)
    replace RK2 := hid (RK2.out.below hbj); replace RQ2 := hid (RQ2.out.below hbj)
    replace RK3 := hid (RK3.out.below hbj); replace RQ3 := hid (RQ3.out.below hbj)
    replace RN8 := hid (RN8.out.below hbj)
    have RN9 := hid (show Rn 4 v7 s9 x9 n9 c9 f9 y9 m9 d9 g9 1 from hqj)
    clear hbj hqj
    refine wpAnyP_ready (rs := [12]) (by kernel_rfl) (by simp) ?_
    refine AllReadyP.cons (o := _) rfl (fun K hK => ?_) ?_
    rotate_left
    exact AllReadyP.nil
    go_simp
    refine hK.out _ _ (fun _ => t9) (fun hS9 => ?_)
    clear hK K hS9
    try simp only [Act.put, List.setIfInBounds_toArray, List.set_cons_zero, List.set_cons_succ]
    refine wpAnyP_ready (rs := [13]) (by kernel_rfl) (by simp) ?_
    refine AllReadyP.cons (o := _) rfl (fun K hK => ?_) ?_
    rotate_left
    exact AllReadyP.nil
    have hk := RK2.out
    have tf := hk.fz
    obtain ⟨_, k0, _⟩ := hk.has (jn * 3) (by omega)
    obtain ⟨_, k1, _⟩ := hk.has (jn * 3 + 1) (by omega)
    obtain ⟨_, k2, _⟩ := hk.has (jn * 3 + 2) (by omega)
    have FG := hid (rk_fr (s := s8) (x := x8) (k := n8) (c := c8) (y := y8) (m := m8) (d := d8) hk hjn)
    obtain ⟨R1a, R2a⟩ := rq_st (i' := cs.length) (j := jn) (Q' := fun i => if some jn = some i then 1 else 0) hk RQ2.out hjn (by rw [if_pos rfl]; exact RN8.out) (fun j' h1 h2 => ⟨h1, by show (if _ then _ else _) = _; rw [if_neg (fun e => h2 (Option.some.inj e).symm)]⟩)
    have QK2 := hid R2a
    clear R1a R2a hk
    go_simp
    have t0 := And.intro (FG.out.cell (show ¬ (xc = B2) by omega) t9.1) (And.intro (FG.out.cell (show ¬ (xc = B2) by omega) t9.2.1) (FG.out.cell (show ¬ (bi = B2) by omega) t9.2.2))
    refine hK.out _ _ (fun _ => t0) (fun hS9 => ?_)
    clear hK K hS9
    try simp only [Act.put, List.setIfInBounds_toArray, List.set_cons_zero, List.set_cons_succ]
    have HBs := hid (below_at (o := jn * 3) (u0 := .bool s8) (u1 := .slice x8 n8 c8) (u2 := .slice y8 m8 d8) HB.out (show w.heap.size ≤ B2 by omega))
    replace BZ := hid (FG.out.bk BZ.out (by omega)); replace BC := hid (FG.out.bk BC.out (by omega)); replace RN9 := hid (FG.out.rn RN9.out)
    replace RK0 := hid (RK0.out.fr FG.out (by omega)); replace RQ0 := hid (RQ0.out.fr FG.out (by omega))
    replace RK1 := hid (RK1.out.fr FG.out (by omega)); replace RQ1 := hid (RQ1.out.fr FG.out (by omega))
    replace RK3 := hid (RK3.out.fr FG.out (by omega)); replace RQ3 := hid (RQ3.out.fr FG.out (by omega))
    clear RK2 RQ2 FG k0 k1 k2 tf HB
    generalize ((v7.setCell ⟨B2, jn * 3, none⟩ (.bool s8)).setCell ⟨B2, jn * 3 + 1, none⟩ (.slice x8 n8 c8)).setCell ⟨B2, jn * 3 + 2, none⟩ (.slice y8 m8 d8) = v8 at *
    refine wpAnyP_ready (rs := [14]) (by kernel_rfl) (by simp) ?_
    refine AllReadyP.cons (o := _) rfl (fun K hK => ?_) ?_
    rotate_left
    exact AllReadyP.nil
    go_simp
    refine hK.out _ _ (fun _ => t0) (fun hS9 => ?_)
    clear hK K hS9
    try simp only [Act.put, List.setIfInBounds_toArray, List.set_cons_zero, List.set_cons_succ]
    refine wpAnyP_ready (rs := [15]) (by kernel_rfl) (by simp) ?_
    refine AllReadyP.cons (o := _) rfl (fun K hK => ?_) ?_
    rotate_left
    exact AllReadyP.nil
    have hk := RK3.out
    have tf := hk.fz
    obtain ⟨_, k0, _⟩ := hk.has (jn * 3) (by omega)
    obtain ⟨_, k1, _⟩ := hk.has (jn * 3 + 1) (by omega)
    obtain ⟨_, k2, _⟩ := hk.has (jn * 3 + 2) (by omega)
    have FG := hid (rk_fr (s := s9) (x := x9) (k := n9) (c := c9) (y := y9) (m := m9) (d := d9) hk hjn)
    obtain ⟨R1a, R2a⟩ := rq_st (i' := cs.length) (j := jn) (Q' := fun i => if some jn = some i then 1 else 0) hk RQ3.out hjn (by rw [if_pos rfl]; exact RN9.out) (fun j' h1 h2 => ⟨h1, by show (if _ then _ else _) = _; rw [if_neg (fun e => h2 (Option.some.inj e).symm)]⟩)
    have QK3 := hid R2a
    clear R1a R2a hk
    go_simp
    refine hK.out _ _ (fun h => by cases h) (fun _ => ?_)
    clear hK K
    try simp only [Act.put, List.setIfInBounds_toArray, List.set_cons_zero, List.set_cons_succ]
    have HBf := hid (below_at (o := jn * 3) (u0 := .bool s9) (u1 := .slice x9 n9 c9) (u2 := .slice y9 m9 d9) HBs.out (show w.heap.size ≤ B3 by omega))
    replace BZ := hid (FG.out.bk BZ.out (by omega)); replace BC := hid (FG.out.bk BC.out (by omega)); replace QK2 := hid (QK2.out.fr FG.out (by omega))
    replace RQ0 := hid (RQ0.out.fr FG.out (by omega))
    replace RQ1 := hid (RQ1.out.fr FG.out (by omega))
    clear RK0 RK1 RK3
    clear RQ3 FG k0 k1 k2 tf HBs RN8 RN9 t0 t8 t9 hHeld
    refine wpAnyP_done (by kernel_rfl) ?_ _
    generalize ((v8.setCell ⟨B3, jn * 3, none⟩ (.bool s9)).setCell ⟨B3, jn * 3 + 1, none⟩ (.slice x9 n9 c9)).setCell ⟨B3, jn * 3 + 2, none⟩ (.slice y9 m9 d9) = v9 at *
    have b0 := BC.out.cell (j := 0) rfl
    have b1 := BC.out.cell (j := 1) rfl
    have b2 := BC.out.cell (j := 2) rfl
    have b3 := BC.out.cell (j := 3) rfl
    have l0 := BZ.out.cell (j := 0) rfl
    have l1 := BZ.out.cell (j := 1) rfl
    have l2 := BZ.out.cell (j := 2) rfl
    have l3 := BZ.out.cell (j := 3) rfl
    have ff := BZ.out.frozen
    obtain ⟨hx1, hx2, hx3⟩ := st_new [.slice (some ⟨B0, 0, none⟩) rs.length rs.length, .slice (some ⟨B1, 0, none⟩) rs.length rs.length, .slice (some ⟨B2, 0, none⟩) cs.length cs.length, .slice (some ⟨B3, 0, none⟩) cs.length cs.length] BZ.out (nou_list (fun u hu q => by simp at hu; subst hu; simp)) HBf.out (Nat.le_succ _)
    have FZ : ∀ {B i Q}, B ≠ w.heap.size + 1 → Rq 4 v9 B i Q → Rq 4 (stl (w.heap.size + 1) 0 [.slice (some ⟨B0, 0, none⟩) rs.length rs.length, .slice (some ⟨B1, 0, none⟩) rs.length rs.length, .slice (some ⟨B2, 0, none⟩) cs.length cs.length, .slice (some ⟨B3, 0, none⟩) cs.length cs.length] v9) B i Q := fun {B i Q} hne h j hj => by
      obtain ⟨t, ⟨a0, a1, a2⟩, h2⟩ := h j hj
      exact ⟨t, ⟨(World.cell?_of_block (hx3 B hne)).trans a0, (World.cell?_of_block (hx3 B hne)).trans a1, (World.cell?_of_block (hx3 B hne)).trans a2⟩, h2.kp hx2⟩
    have HXX : Hid (CsgAns w (stl (w.heap.size + 1) 0 [.slice (some ⟨B0, 0, none⟩) rs.length rs.length, .slice (some ⟨B1, 0, none⟩) rs.length rs.length, .slice (some ⟨B2, 0, none⟩) cs.length cs.length, .slice (some ⟨B3, 0, none⟩) cs.length cs.length] v9) (.returned (.tuple #[.agg #[.slice (some ⟨B0, 0, none⟩) rs.length rs.length, .slice (some ⟨B1, 0, none⟩) rs.length rs.length, .slice (some ⟨B2, 0, none⟩) cs.length cs.length, .slice (some ⟨B3, 0, none⟩) cs.length cs.length], .int .i64 0])) 0 cs rs) := ⟨hx1, .inr (.inr ⟨rfl, HN.out, B0, B1, B2, B3, rfl, rq_ulst (FZ (by omega) RQ0.out) (fun i hi => by rw [HJ.out]; rfl), rq_ulst (FZ (by omega) RQ1.out) (fun i hi => by rw [HJ.out]; rfl), rq_ulst (FZ (by omega) QK2.out) (fun i hi => by rw [show jcl cs = some jn from by rw [HJ2.out _ _ HLL.out]; rfl]), rq_ulst (FZ (by omega) QK3.out) (fun i hi => by rw [show jcl cs = some jn from by rw [HJ2.out _ _ HLL.out]; rfl])⟩)⟩
    clear hx1 hx2 hx3 FZ HBf BM BZ BC RQ0 RQ1 QK2 QK3
    go_wp2
    exact bodyPost_ret (v := .tuple #[.agg #[.slice (some ⟨B0, 0, none⟩) rs.length rs.length, .slice (some ⟨B1, 0, none⟩) rs.length rs.length, .slice (some ⟨B2, 0, none⟩) cs.length cs.length, .slice (some ⟨B3, 0, none⟩) cs.length cs.length], .int .i64 0]) (by simp [results, Tryz.results14, go_sem, l0, l1, l2, l3]) rfl HXX.out
end Go.Proofs.YtedpomledbgpoaaGreat
namespace Go.Proofs.YtedpomledbgpoaaGreat
open Go.RowKit

end Go.Proofs.YtedpomledbgpoaaGreat
namespace Go.Proofs.YtedpomledbgpoaaGreat
open Go.RowKit

end Go.Proofs.YtedpomledbgpoaaGreat
namespace Go.Proofs.YtedpomledbgpoaaGreat
open Go.RowKit

end Go.Proofs.YtedpomledbgpoaaGreat
namespace Go.Proofs.YtedpomledbgpoaaGreat
open Go.RowKit

end Go.Proofs.YtedpomledbgpoaaGreat
namespace Go.Proofs.YtedpomledbgpoaaGreat
open Go.RowKit

end Go.Proofs.YtedpomledbgpoaaGreat
namespace Go.Proofs.YtedpomledbgpoaaGreat
open Go.RowKit

set_option maxRecDepth 100000 in
set_option maxHeartbeats 4000000 in
theorem num12_c {w : World} {z : Int} (h0 : -1000 ≤ z) (h1 : z ≤ 1000) : Calls Tryz.prog 53 #[.int .i64 z] w fun e w' => ∃ v, e = .returned v ∧ Below w.heap.size w w' ∧ GX 8 0 (z : Rat) v w' := by
  have HB := hid (below_alloc (Below.refl w.heap.size w) (.cells #[.int .i64 0, .bool false, .slice none 0 0, .slice none 0 0] 64))
  have BR : Hid (Bk (w.alloc (.cells #[.int .i64 0, .bool false, .slice none 0 0, .slice none 0 0] 64)) w.heap.size [.int .i64 0, .bool false, .slice none 0 0, .slice none 0 0] 64) := bk_new w [.int .i64 0, .bool false, .slice none 0 0, .slice none 0 0] 64
  go_enter Tryz.func53, Tryz.ntmps53
  go_wp2_with fail
  generalize w.alloc (.cells #[.int .i64 0, .bool false, .slice none 0 0, .slice none 0 0] 64) = w0 at *
  refine (docOfQ_c (z := z) (by omega) (by omega)).mono ?_
  rintro e w1 ⟨s, x, n, c, f, y, m, d, g, rfl, hb, hr⟩
  replace HB := hid (HB.out.trans (hb.mono HB.out.size)); replace BR := hid (BR.out.below hb)
  obtain ⟨hx1, hx2, hx3⟩ := st_new [.int .i64 0, .bool s, .slice x n c, .slice y m d] BR.out (nou_list (fun u hu q => by simp at hu; rcases hu with rfl | rfl | rfl | rfl <;> simp)) HB.out (Nat.le_refl _)
  have l0 := BR.out.cell (j := 0) rfl
  have l1 := BR.out.cell (j := 1) rfl
  have l2 := BR.out.cell (j := 2) rfl
  have l3 := BR.out.cell (j := 3) rfl
  have ff := BR.out.frozen
  have HX : Hid (Below w.heap.size w (stl w.heap.size 0 [.int .i64 0, .bool s, .slice x n c, .slice y m d] w1) ∧ GX 8 0 (z : Rat) (.agg #[.int .i64 0, .bool s, .slice x n c, .slice y m d]) (stl w.heap.size 0 [.int .i64 0, .bool s, .slice x n c, .slice y m d] w1)) := ⟨hx1, ⟨0, ⟨s, x, n, c, f, y, m, d, g⟩⟩, rfl, rfl, (Rn.kp hr hx2).mono (by decide)⟩
  clear hx1 hx2 hx3 hb hr HB
  go_wp2
  exact bodyPost_ret (v := .agg #[.int .i64 0, .bool s, .slice x n c, .slice y m d]) (by simp [results, Tryz.results53, go_sem, l0, l1, l2, l3]) rfl ⟨_, rfl, HX.out⟩
set_option maxRecDepth 100000 in
theorem one12_c {w : World} {z : Int} (h0 : -1000 ≤ z) (h1 : z ≤ 1000) : Calls Tryz.prog 23 #[.int .i64 z] w fun e w' => ∃ a, e = .returned (.slice a 1 1) ∧ Below w.heap.size w w' ∧ Hid (Rf 4 w' a [(z : Rat)]) := by
  go_enter Tryz.func23, Tryz.ntmps23
  go_wp2_with fail
  refine (docOfQ_c (z := z) (by omega) (by omega)).mono ?_
  rintro e w1 ⟨s, x, n, c, f, y, m, d, g, rfl, hb, hr⟩
  have HR := hid (show Rf 4 (w1.alloc (.cells #[.bool s, .slice x n c, .slice y m d] 24)) (some ⟨w1.heap.size, 0, none⟩) [(z : Rat)] from (gr_one (base := 0) hr (Nat.zero_le _)).rf)
  have HB := hid (below_alloc hb (.cells #[.bool s, .slice x n c, .slice y m d] 24))
  clear hr hb
  go_wp2
  go_ret
  exact ⟨_, rfl, HB.out, HR.out⟩
/-- The values of law12's first. -/
def k1C : List CV := [⟨⟨#[120]⟩, 0, 0, 0, 0, 1⟩]
def k1R : List RV := [⟨⟨#[114]⟩, 0, 2, 0, 9, [(0, 1)]⟩]
set_option maxRecDepth 100000 in
set_option maxHeartbeats 8000000 in
theorem first12_c {w : World} : Calls Tryz.prog 24 #[] w fun e w' => ∃ M : Mo, e = .returned M.val ∧ Below w.heap.size w w' ∧ Hid (MoV 8 w' M 0 k1C k1R) := by
  have HB := hid (below_alloc (Below.refl w.heap.size w) (.cells #[.bool false, .slice none 0 0, .slice none 0 0, .slice none 0 0, .slice none 0 0] 28))
  have O0 : Hid (Bk (w.alloc (.cells #[.bool false, .slice none 0 0, .slice none 0 0, .slice none 0 0, .slice none 0 0] 28)) w.heap.size [.bool false, .slice none 0 0, .slice none 0 0, .slice none 0 0, .slice none 0 0] 28) := bk_new w [.bool false, .slice none 0 0, .slice none 0 0, .slice none 0 0, .slice none 0 0] 28
  go_enter Tryz.func24, Tryz.ntmps24
  go_wp2_with fail
  generalize w.alloc (.cells #[.bool false, .slice none 0 0, .slice none 0 0, .slice none 0 0, .slice none 0 0] 28) = w0 at *
  refine (docOfQ_c (z := 0) (by decide) (by decide)).mono ?_
  rintro e w1 ⟨s1, x1, n1, c1, f1, y1, m1, d1, g1, rfl, hb, hr⟩
  replace HB := hid (HB.out.trans (hb.mono HB.out.size)); replace O0 := hid (O0.out.below hb)
  have R1 := hid hr
  clear hb hr
  go_wp2_with fail
  refine (docOfQ_c (z := 0) (by decide) (by decide)).mono ?_
  rintro e w2 ⟨s2, x2, n2, c2, f2, y2, m2, d2, g2, rfl, hb, hr⟩
  replace HB := hid (HB.out.trans (hb.mono HB.out.size)); replace O0 := hid (O0.out.below hb); replace R1 := hid (R1.out.below hb)
  have R2 := hid hr
  clear hb hr
  go_wp2_with fail
  refine (num12_c (z := 0) (by decide) (by decide)).mono ?_
  rintro e w3 ⟨v3, rfl, hb, ⟨⟨i3, ⟨s3, x3, n3, c3, f3, y3, m3, d3, g3⟩⟩, ev, hi3, hv⟩⟩
  replace ev : v3 = .agg #[.int .i64 i3, .bool s3, .slice x3 n3 c3, .slice y3 m3 d3] := ev
  subst ev
  replace HB := hid (HB.out.trans (hb.mono HB.out.size)); replace O0 := hid (O0.out.below hb); replace R1 := hid (R1.out.below hb); replace R2 := hid (R2.out.below hb)
  replace hi3 : i3 = 0 := hi3
  subst hi3
  have R3 := hid (show Rn 8 w3 s3 x3 n3 c3 f3 y3 m3 d3 g3 (0 : Int) from hv)
  clear hb hv
  go_wp2_with fail
  refine (num12_c (z := 1) (by decide) (by decide)).mono ?_
  rintro e w4 ⟨v4, rfl, hb, ⟨⟨i4, ⟨s4, x4, n4, c4, f4, y4, m4, d4, g4⟩⟩, ev, hi4, hv⟩⟩
  replace ev : v4 = .agg #[.int .i64 i4, .bool s4, .slice x4 n4 c4, .slice y4 m4 d4] := ev
  subst ev
  replace HB := hid (HB.out.trans (hb.mono HB.out.size)); replace O0 := hid (O0.out.below hb); replace R1 := hid (R1.out.below hb); replace R2 := hid (R2.out.below hb); replace R3 := hid (R3.out.below hb)
  replace hi4 : i4 = 0 := hi4
  subst hi4
  have R4 := hid (show Rn 8 w4 s4 x4 n4 c4 f4 y4 m4 d4 g4 (1 : Int) from hv)
  clear hb hv
  have hn := below_alloc (Below.refl w4.heap.size w4) (.cells #[.string ⟨#[120]⟩, .bool s2, .slice x2 n2 c2, .slice y2 m2 d2, .int .i64 0, .bool s3, .slice x3 n3 c3, .slice y3 m3 d3, .int .i64 0, .bool s4, .slice x4 n4 c4, .slice y4 m4 d4] 66)
  have HC : Hid (Cs (w4.alloc (.cells #[.string ⟨#[120]⟩, .bool s2, .slice x2 n2 c2, .slice y2 m2 d2, .int .i64 0, .bool s3, .slice x3 n3 c3, .slice y3 m3 d3, .int .i64 0, .bool s4, .slice x4 n4 c4, .slice y4 m4 d4] 66)) w4.heap.size 0 [.string ⟨#[120]⟩, .bool s2, .slice x2 n2 c2, .slice y2 m2 d2, .int .i64 0, .bool s3, .slice x3 n3 c3, .slice y3 m3 d3, .int .i64 0, .bool s4, .slice x4 n4 c4, .slice y4 m4 d4]) := cs_new w4 66 [.string ⟨#[120]⟩, .bool s2, .slice x2 n2 c2, .slice y2 m2 d2, .int .i64 0, .bool s3, .slice x3 n3 c3, .slice y3 m3 d3, .int .i64 0, .bool s4, .slice x4 n4 c4, .slice y4 m4 d4] [.string ⟨#[120]⟩, .bool s2, .slice x2 n2 c2, .slice y2 m2 d2, .int .i64 0, .bool s3, .slice x3 n3 c3, .slice y3 m3 d3, .int .i64 0, .bool s4, .slice x4 n4 c4, .slice y4 m4 d4] 0 (fun j v e => by rw [Nat.zero_add]; exact e)
  replace HB := hid (HB.out.trans (hn.mono HB.out.size)); replace O0 := hid (O0.out.below hn); replace R1 := hid (R1.out.below hn); replace R2 := hid (R2.out.below hn); replace R3 := hid (R3.out.below hn); replace R4 := hid (R4.out.below hn)
  clear hn
  go_wp2_with fail
  generalize hw8 : w4.alloc (.cells #[.string ⟨#[120]⟩, .bool s2, .slice x2 n2 c2, .slice y2 m2 d2, .int .i64 0, .bool s3, .slice x3 n3 c3, .slice y3 m3 d3, .int .i64 0, .bool s4, .slice x4 n4 c4, .slice y4 m4 d4] 66) = w8 at *
  clear hw8
  generalize w4.heap.size = bc at *
  refine (num12_c (z := 2) (by decide) (by decide)).mono ?_
  rintro e w5 ⟨v5, rfl, hb, ⟨⟨i5, ⟨s5, x5, n5, c5, f5, y5, m5, d5, g5⟩⟩, ev, hi5, hv⟩⟩
  replace ev : v5 = .agg #[.int .i64 i5, .bool s5, .slice x5 n5 c5, .slice y5 m5 d5] := ev
  subst ev
  replace HB := hid (HB.out.trans (hb.mono HB.out.size)); replace O0 := hid (O0.out.below hb); replace R1 := hid (R1.out.below hb); replace R2 := hid (R2.out.below hb); replace R3 := hid (R3.out.below hb); replace R4 := hid (R4.out.below hb); replace HC := hid (HC.out.below hb)
  replace hi5 : i5 = 0 := hi5
  subst hi5
  have R5 := hid (show Rn 8 w5 s5 x5 n5 c5 f5 y5 m5 d5 g5 (2 : Int) from hv)
  clear hb hv
  go_wp2_with fail
  refine (num12_c (z := 9) (by decide) (by decide)).mono ?_
  rintro e w6 ⟨v6, rfl, hb, ⟨⟨i6, ⟨s6, x6, n6, c6, f6, y6, m6, d6, g6⟩⟩, ev, hi6, hv⟩⟩
  replace ev : v6 = .agg #[.int .i64 i6, .bool s6, .slice x6 n6 c6, .slice y6 m6 d6] := ev
  subst ev
  replace HB := hid (HB.out.trans (hb.mono HB.out.size)); replace O0 := hid (O0.out.below hb); replace R1 := hid (R1.out.below hb); replace R2 := hid (R2.out.below hb); replace R3 := hid (R3.out.below hb); replace R4 := hid (R4.out.below hb); replace HC := hid (HC.out.below hb); replace R5 := hid (R5.out.below hb)
  replace hi6 : i6 = 0 := hi6
  subst hi6
  have R6 := hid (show Rn 8 w6 s6 x6 n6 c6 f6 y6 m6 d6 g6 (9 : Int) from hv)
  clear hb hv
  go_wp2_with fail
  refine (docOfQ_c (z := 1) (by decide) (by decide)).mono ?_
  rintro e w7 ⟨s7, x7, n7, c7, f7, y7, m7, d7, g7, rfl, hb, hr⟩
  replace HB := hid (HB.out.trans (hb.mono HB.out.size)); replace O0 := hid (O0.out.below hb); replace R1 := hid (R1.out.below hb); replace R2 := hid (R2.out.below hb); replace R3 := hid (R3.out.below hb); replace R4 := hid (R4.out.below hb); replace HC := hid (HC.out.below hb); replace R5 := hid (R5.out.below hb); replace R6 := hid (R6.out.below hb)
  have R7 := hid hr
  clear hb hr
  have HTs : Hid (C4 (w7.alloc (.cells #[.int .i64 0, .bool s7, .slice x7 n7 c7, .slice y7 m7 d7] 71)) w7.heap.size 0 (.int .i64 0) (.bool s7) (.slice x7 n7 c7) (.slice y7 m7 d7)) := cs4 (cs_new w7 71 [.int .i64 0, .bool s7, .slice x7 n7 c7, .slice y7 m7 d7] [.int .i64 0, .bool s7, .slice x7 n7 c7, .slice y7 m7 d7] 0 (fun j v e => by rw [Nat.zero_add]; exact e))
  have hn := below_alloc (Below.refl w7.heap.size w7) (.cells #[.int .i64 0, .bool s7, .slice x7 n7 c7, .slice y7 m7 d7] 71)
  replace HB := hid (HB.out.trans (hn.mono HB.out.size)); replace O0 := hid (O0.out.below hn); replace R1 := hid (R1.out.below hn); replace R2 := hid (R2.out.below hn); replace R3 := hid (R3.out.below hn); replace R4 := hid (R4.out.below hn); replace HC := hid (HC.out.below hn); replace R5 := hid (R5.out.below hn); replace R6 := hid (R6.out.below hn); replace R7 := hid (R7.out.below hn)
  clear hn
  have hn := below_alloc (Below.refl (w7.alloc (.cells #[.int .i64 0, .bool s7, .slice x7 n7 c7, .slice y7 m7 d7] 71)).heap.size (w7.alloc (.cells #[.int .i64 0, .bool s7, .slice x7 n7 c7, .slice y7 m7 d7] 71))) (.cells #[.string ⟨#[114]⟩, .int .i64 0, .bool s5, .slice x5 n5 c5, .slice y5 m5 d5, .int .i64 0, .bool s6, .slice x6 n6 c6, .slice y6 m6 d6, .slice (some ⟨w7.heap.size, 0, none⟩) 1 1] 69)
  have HRs : Hid (Cs ((w7.alloc (.cells #[.int .i64 0, .bool s7, .slice x7 n7 c7, .slice y7 m7 d7] 71)).alloc (.cells #[.string ⟨#[114]⟩, .int .i64 0, .bool s5, .slice x5 n5 c5, .slice y5 m5 d5, .int .i64 0, .bool s6, .slice x6 n6 c6, .slice y6 m6 d6, .slice (some ⟨w7.heap.size, 0, none⟩) 1 1] 69)) (w7.alloc (.cells #[.int .i64 0, .bool s7, .slice x7 n7 c7, .slice y7 m7 d7] 71)).heap.size 0 [.string ⟨#[114]⟩, .int .i64 0, .bool s5, .slice x5 n5 c5, .slice y5 m5 d5, .int .i64 0, .bool s6, .slice x6 n6 c6, .slice y6 m6 d6, .slice (some ⟨w7.heap.size, 0, none⟩) 1 1]) := cs_new (w7.alloc (.cells #[.int .i64 0, .bool s7, .slice x7 n7 c7, .slice y7 m7 d7] 71)) 69 [.string ⟨#[114]⟩, .int .i64 0, .bool s5, .slice x5 n5 c5, .slice y5 m5 d5, .int .i64 0, .bool s6, .slice x6 n6 c6, .slice y6 m6 d6, .slice (some ⟨w7.heap.size, 0, none⟩) 1 1] [.string ⟨#[114]⟩, .int .i64 0, .bool s5, .slice x5 n5 c5, .slice y5 m5 d5, .int .i64 0, .bool s6, .slice x6 n6 c6, .slice y6 m6 d6, .slice (some ⟨w7.heap.size, 0, none⟩) 1 1] 0 (fun j v e => by rw [Nat.zero_add]; exact e)
  replace HB := hid (HB.out.trans (hn.mono HB.out.size)); replace O0 := hid (O0.out.below hn); replace R1 := hid (R1.out.below hn); replace R2 := hid (R2.out.below hn); replace R3 := hid (R3.out.below hn); replace R4 := hid (R4.out.below hn); replace HC := hid (HC.out.below hn); replace R5 := hid (R5.out.below hn); replace R6 := hid (R6.out.below hn); replace R7 := hid (R7.out.below hn); replace HTs := hid (HTs.out.below hn)
  clear hn
  rw [size_alloc1] at HRs
  have HMo : Hid (MoV 8 ((w7.alloc (.cells #[.int .i64 0, .bool s7, .slice x7 n7 c7, .slice y7 m7 d7] 71)).alloc (.cells #[.string ⟨#[114]⟩, .int .i64 0, .bool s5, .slice x5 n5 c5, .slice y5 m5 d5, .int .i64 0, .bool s6, .slice x6 n6 c6, .slice y6 m6 d6, .slice (some ⟨w7.heap.size, 0, none⟩) 1 1] 69)) ⟨⟨s1, x1, n1, c1, f1, y1, m1, d1, g1⟩, some ⟨bc, 0, none⟩, 1, 1, fun _ => ⟨⟨#[120]⟩, ⟨s2, x2, n2, c2, f2, y2, m2, d2, g2⟩, ⟨0, ⟨s3, x3, n3, c3, f3, y3, m3, d3, g3⟩⟩, ⟨0, ⟨s4, x4, n4, c4, f4, y4, m4, d4, g4⟩⟩⟩, some ⟨w7.heap.size + 1, 0, none⟩, 1, 1, fun _ => ⟨⟨#[114]⟩, ⟨0, ⟨s5, x5, n5, c5, f5, y5, m5, d5, g5⟩⟩, ⟨0, ⟨s6, x6, n6, c6, f6, y6, m6, d6, g6⟩⟩, some ⟨w7.heap.size, 0, none⟩, 1, 1, fun _ => 0, fun _ => ⟨s7, x7, n7, c7, f7, y7, m7, d7, g7⟩⟩⟩ 0 k1C k1R) := by
    refine ⟨R1.out.mono (by decide), rfl, rfl, fun j v e => ?_, fun j v e => ?_⟩
    · match j, e with
      | 0, e => cases e; exact ⟨⟨_, 0, rfl, HC.out⟩, rfl, R2.out.mono (by decide), rfl, R3.out, rfl, R4.out⟩
    · match j, e with
      | 0, e =>
        cases e
        refine ⟨⟨_, 0, rfl, HRs.out⟩, rfl, rfl, R5.out, rfl, R6.out, rfl, fun p z q e => ?_⟩
        match p, e with
        | 0, e =>
          cases e
          exact ⟨rfl, R7.out.mono (by decide), _, 0, rfl, HTs.out⟩
  obtain ⟨hk1, hk2⟩ := kp_st5 (v0 := .bool s1) (v1 := .slice x1 n1 c1) (v2 := .slice y1 m1 d1) (v3 := .slice (some ⟨bc, 0, none⟩) 1 1) (v4 := .slice (some ⟨w7.heap.size + 1, 0, none⟩) 1 1) O0.out (nou5 _ _ _ _ _ _ _ _ _ _ _ _ _) rfl
  have HM2 := hid (HMo.out.kp hk1 hk2 (noc5 O0.out))
  have HB2 := hid (below_st5 (u0 := .bool s1) (u1 := .slice x1 n1 c1) (u2 := .slice y1 m1 d1) (u3 := .slice (some ⟨bc, 0, none⟩) 1 1) (u4 := .slice (some ⟨w7.heap.size + 1, 0, none⟩) 1 1) HB.out (Nat.le_refl w.heap.size))
  have l0 := O0.out.cell (j := 0) rfl
  have l1 := O0.out.cell (j := 1) rfl
  have l2 := O0.out.cell (j := 2) rfl
  have l3 := O0.out.cell (j := 3) rfl
  have l4 := O0.out.cell (j := 4) rfl
  have ff := O0.out.frozen
  clear hk1 hk2 HMo HB O0 R1 R2 R3 R4 R5 R6 R7 HC HTs HRs
  go_wp2
  exact bodyPost_ret (v := .agg #[.bool s1, .slice x1 n1 c1, .slice y1 m1 d1, .slice (some ⟨bc, 0, none⟩) 1 1, .slice (some ⟨w7.heap.size + 1, 0, none⟩) 1 1]) (by simp [results, Tryz.results24, go_sem, l0, l1, l2, l3, l4]) rfl ⟨_, rfl, HB2.out, HM2.out⟩
end Go.Proofs.YtedpomledbgpoaaGreat
namespace Go.Proofs.YtedpomledbgpoaaGreat
open Go.RowKit

theorem rSameEq_c {L L' w sa xa na ca fa ya ma da ga sb xb nb cb fb yb mb db gb q} (ha : Rn L w sa xa na ca fa ya ma da ga q) (hb : Rn L' w sb xb nb cb fb yb mb db gb q) (h1 : L ≤ 1048576) (h2 : L' ≤ 1048576) :
    Calls Tryz.prog 21 #[.agg #[.bool sa, .slice xa na ca, .slice ya ma da], .agg #[.bool sb, .slice xb nb cb, .slice yb mb db]] w fun e w' => e = .returned (.bool true) ∧ Below w.heap.size w w' := by
  have l1 := ha.ln; have l2 := ha.ld; have l3 := hb.ln; have l4 := hb.ld
  refine (rSame_c sa xa ya na ca ma da fa ga sb xb yb nb cb mb db fb gb w ha.num.rd ha.den.rd hb.num.rd hb.den.rd (by omega) (by omega) (by omega) (by omega)).mono ?_
  rintro e w' ⟨c, rfl, h3, h4⟩
  refine ⟨?_, h3⟩
  rw [h4.2 ((ha.inj hb).2 rfl)]

end Go.Proofs.YtedpomledbgpoaaGreat

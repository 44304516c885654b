/-
  Walks of package nat's greatest common divisor: some, euclid.
-/
import Derived.Test.YtjjbmioicliipabDoorG4
import Derived.Test.YtjjbmioicliipabDoorD6
namespace Go.Proofs.YtjjbmioicliipabDoor
open Go.RowKit

set_option maxHeartbeats 400000 in
theorem some_c (a0 b0 a1 b1 : Int) (odd : Bool) (w : World) : Calls Tryd.prog 64 #[.agg #[.int .u64 a0, .int .u64 b0, .int .u64 a1, .int .u64 b1, .bool odd]] w fun e w' => e = .returned (.bool (b0 != 0)) ∧ Below w.heap.size w w' := by
  go_enter Tryd.func64, Tryd.ntmps64
  go_wp2
  go_ret
  exact ⟨rfl, (Below.refl _ _).alloc (Nat.le_refl _) _⟩

/-- A number in a block of the call's own (blocks from base on). -/
def One (base : Nat) (w : World) (x : Option Addr) (k c g : Nat) (A : Int) : Prop := ∃ P, x = some ⟨g, 0, none⟩ ∧ 0 < k ∧ k ≤ c ∧ c ≤ 140737488355328 ∧ base ≤ g ∧ Blk .u64 32 w g c P ∧ Lm P c ∧ Fm P k ∧ vf P k = A
theorem One.below {base w w' x k c g A} (h : One base w x k c g A) (hb : Below w.heap.size w w') : One base w' x k c g A := by
  obtain ⟨P, h1, h2, h3, h4, h5, h6, h7, h8, h9⟩ := h
  exact ⟨P, h1, h2, h3, h4, h5, h6.below hb h6.lt, h7, h8, h9⟩
/-- Two numbers, the second maybe 0, in blocks of their own. -/
def Two (base : Nat) (w : World) (x1 : Option Addr) (k1 c1 : Nat) (x2 : Option Addr) (k2 c2 : Nat) (A B : Int) : Prop :=
  ∃ g1, One base w x1 k1 c1 g1 A ∧ 0 ≤ B ∧ B ≤ A ∧ ((x2 = none ∧ k2 = 0 ∧ c2 = 0 ∧ B = 0) ∨ ∃ g2, g1 ≠ g2 ∧ One base w x2 k2 c2 g2 B)
theorem Two.below {base w w' x1 k1 c1 x2 k2 c2 A B} (h : Two base w x1 k1 c1 x2 k2 c2 A B) (hb : Below w.heap.size w w') : Two base w' x1 k1 c1 x2 k2 c2 A B := by
  obtain ⟨g1, h1, h2, h3, h4⟩ := h
  exact ⟨g1, h1.below hb, h2, h3, h4.imp id (fun ⟨g2, a, b⟩ => ⟨g2, a, b.below hb⟩)⟩

set_option maxRecDepth 100000 in
set_option maxHeartbeats 8000000 in
theorem euclid_c (base : Nat) (x1 x2 : Option Addr) (k1 c1 k2 c2 K : Nat) (A B : Int) (w : World) (h : Two base w x1 k1 c1 x2 k2 c2 A B) (hk2 : 2 ≤ k2) (hAK : A < pw K) (hK : K ≤ 8796093022207) (hbase : base ≤ w.heap.size) :
    Calls Tryd.prog 44 #[.slice x1 k1 c1, .slice x2 k2 c2] w fun e w' => ∃ y1 l1 d1 y2 l2 d2 A' B', e = .returned (.tuple #[.slice y1 l1 d1, .slice y2 l2 d2]) ∧ Below base w w' ∧ Two base w' y1 l1 d1 y2 l2 d2 A' B' ∧ Cd A' B' A B ∧ B' < B ∧ A' ≤ A := by
  obtain ⟨g1, ⟨P, rfl, a1, a2, a3, a4, hbP, lP, fP, vP⟩, b0, b1, h2⟩ := h
  rcases h2 with ⟨_, hz, _⟩ | ⟨g2, hne, Q, rfl, e1, e2, e3, e4, hbQ, lQ, fQ, vQ⟩
  · omega
  have hk1K : k1 ≤ K := mid_len (lP.mono a2) fP (by rw [vP]; exact hAK)
  have hk21 : k2 ≤ k1 := vf_len (lQ.mono e2) (lP.mono a2) fQ (by rw [vP, vQ]; exact b1)
  have hA0 : 0 ≤ A := by rw [← vP]; exact vf_nonneg (lP.mono a2)
  have hBlt : B < pw k2 := by rw [← vQ]; exact vf_lt (lQ.mono e2)
  obtain ⟨x, y, hT, cH⟩ := highBits_c (some ⟨g1, 0, none⟩) (some ⟨g2, 0, none⟩) k1 k2 c1 c2 P Q w (by omega) (by omega) hk21 (hbP.rd0 a2) (hbQ.rd0 e2) (lP.mono a2) (lQ.mono e2) fP (by rw [vP, vQ]; exact b1)
  rw [vP, vQ] at hT
  obtain ⟨t1, t2, t3, t4, T, ra, rb, hA, hB, ra0, ra1, rb0, rb1⟩ := hT
  have CH := hid cH
  have CF := hid (fun W => findSteps_c x y W t3 t4 (by omega) t2)
  have HP := hid hbP; have HQ := hid hbQ; have LP := hid lP; have LQ := hid lQ; have FP := hid fP; have FQ := hid fQ; have VP := hid vP; have VQ := hid vQ; have HA := hid hA; have HB := hid hB; have BLT := hid hBlt
  clear cH hbP hbQ lP lQ fP fQ vP vQ hA hB hBlt hAK
  go_enter Tryd.func44, Tryd.ntmps44
  go_wp2_with fail
  refine CH.out.mono ?_
  rintro e w1 ⟨rfl, q1, rfl⟩
  go_wp2_with fail
  refine (CF.out _).mono ?_
  rintro e w2 ⟨hbel2, a0, b0', a1', b1', odd, a, b, rfl, hL, hx0⟩
  have HL := hid hL; have HX0 := hid hx0
  have BE2 := hid (show Below w.heap.size w w2 from ⟨hbel2.os, hbel2.tape, hbel2.output, hbel2.size, hbel2.block⟩)
  clear hL hx0 hbel2 CF CH
  go_wp2_with fail
  refine (some_c a0 b0' a1' b1' odd _).mono ?_
  rintro e w3 ⟨rfl, hbel3⟩
  have hS3 : SB w3 w2.heap.size a0 b0' a1' b1' odd := (show SB (w2.alloc _) w2.heap.size a0 b0' a1' b1' odd from heap_alloc_new w2 _).below hbel3
  have z2 := BE2.out.size
  have BE3 := hid (show Below w.heap.size w w3 from (BE2.out.alloc z2 _).trans (hbel3.mono (by simp; omega)))
  have HP3 := hid (HP.out.below BE3.out HP.out.lt); have HQ3 := hid (HQ.out.below BE3.out HQ.out.lt)
  obtain ⟨s0, s1, s2, s3, s4⟩ := hS3.cells
  have g1lt := HP.out.lt; have g2lt := HQ.out.lt
  clear hbel3 hS3 HP HQ
  by_cases hz : b0' = 0
  · have hzb : (b0' != 0) = false := by simp [hz]
    rw [hzb]
    go_wp2_with fail
    refine (divMod_c (some ⟨g1, 0, none⟩) (some ⟨g2, 0, none⟩) k1 k2 c1 c2 P Q w3 (by omega) (by omega) (HP3.out.rd0 a2) (HQ3.out.rd0 e2) (LP.out.mono a2) (LQ.out.mono e2) FP.out FQ.out (by omega)).mono ?_
    rintro e w4 ⟨xq, kq, cq, q, xr, kr, cr, r, rfl, hresq, hresr, hv, hr0, hr1⟩
    rw [VP.out, VQ.out] at hv
    rw [VQ.out] at hr1
    have HV := hid hv; have HR0 := hid hr0; have HR1 := hid hr1; have HRS := hid hresr
    have HQ4 := hid (HQ3.out.below hresr.bel HQ3.out.lt)
    clear hv hr0 hr1 hresq hresr
    go_wp2
    go_ret2
    have hb4 := BE3.out.trans (HRS.out.bel.mono BE3.out.size)
    refine ⟨_, k2, c2, _, kr, cr, B, vf r kr, rfl, hb4.mono hbase, ⟨g2, ⟨Q, rfl, by omega, e2, e3, e4, HQ4.out, LQ.out, FQ.out, VQ.out⟩, HR0.out, by have := HR1.out; omega, ?_⟩, ?_, HR1.out, b1⟩
    · have hnc := HRS.out.ncap
      have z3 := BE3.out.size
      rcases HRS.out.own with ⟨rfl, rfl, rfl⟩ | ⟨gr, rfl, hgr, hk0, hkc, hcC, hbr⟩
      · exact .inl ⟨rfl, rfl, rfl, rfl⟩
      · exact .inr ⟨gr, by omega, r, rfl, hk0, hkc, by omega, by omega, hbr, HRS.out.lmc, HRS.out.fm, rfl⟩
    · have e : vf r kr = A - vf q kq * B := by have := HV.out; omega
      rw [e]
      exact (Cd.refl A B).step _
  · have hzb : (b0' != 0) = true := by simp [hz]
    rw [hzb]
    obtain ⟨hled, m0, m1, m2, m3⟩ := lh_some HL.out hz
    obtain ⟨n0, n1, n2, n3⟩ := lh_none HL.out
    have hl := hled T ra rb ra0 ra1 rb0 rb1
    rw [← HA.out, ← HB.out] at hl
    obtain ⟨l1, l2, l3, l4⟩ := hl
    have HC := hid l4
    clear l4 hled
    obtain ⟨U, hU⟩ : ∃ U, stU odd a0 b0' A B = U := ⟨_, rfl⟩
    obtain ⟨V, hV⟩ : ∃ V, stV odd a1' b1' A B = V := ⟨_, rfl⟩
    rw [hU, hV] at HC
    rw [hV] at l1 l2
    rw [hU] at l2 l3
    have CA := hid (apply_c g1 g2 c1 c2 k1 k2 P Q a0 b0' a1' b1' odd w3 HP3.out HQ3.out LP.out LQ.out hne a2 e2 hk21 (by omega) a3 e3 ⟨n0, by omega⟩ ⟨n1, by omega⟩ ⟨n2, by omega⟩ ⟨n3, by omega⟩ U V (by rw [VP.out, VQ.out]; exact hU) (by rw [VP.out, VQ.out]; exact hV) (by omega) (by have := BLT.out; omega) (by omega) (by have := BLT.out; omega))
    clear hU hV hz
    go_wp2_with fail
    refine CA.out.mono ?_
    rintro e w4 ⟨hon2, gp, gq, Np, Nq, t1', t2', d1, d2, P', Q', y1, y2, rfl, hside, hbp, hbq, lp, lq, hNp, hNq, hx1, hx2, hl1, hl2, fp, fq, vp, vq⟩
    have H1 := hid hside; have H2 := hid hbp; have H3 := hid hbq; have H4 := hid lp; have H5 := hid lq; have H6 := hid hx1; have H7 := hid hx2; have H8 := hid fp; have H9 := hid fq; have H10 := hid vp; have H11 := hid vq; have HON := hid hon2
    clear hside hbp hbq lp lq hx1 hx2 fp fq vp vq hon2 CA
    go_wp2
    go_ret2
    have z3 := BE3.out.size
    have hb4 : Below base w w4 := HON.out.below (BE3.out.mono hbase) a4 e4 (by omega)
    have hgp : base ≤ gp ∧ base ≤ gq ∧ gp ≠ gq := by rcases H1.out with ⟨rfl, rfl⟩ | ⟨rfl, rfl⟩ <;> omega
    refine ⟨y1, t1', d1, y2, t2', d2, U, V, rfl, hb4, ⟨gp, ?_, by omega, by omega, ?_⟩, HC.out, by omega, by omega⟩
    · rcases H6.out with ⟨_, hk0, _⟩ | ⟨h1, h2, h3⟩
      · have := H10.out
        rw [hk0] at this
        simp [vf] at this
        omega
      · exact ⟨P', h1, h2, by omega, by omega, hgp.1, by rw [h3]; exact H2.out, by rw [h3]; exact H4.out, H8.out, H10.out⟩
    · rcases H7.out with ⟨h1, h2, h3⟩ | ⟨h1, h2, h3⟩
      · left
        refine ⟨h1, h2, h3, ?_⟩
        rw [← H11.out, h2]; rfl
      · exact .inr ⟨gq, hgp.2.2, Q', h1, h2, by omega, by omega, hgp.2.1, by rw [h3]; exact H3.out, by rw [h3]; exact H5.out, H9.out, H11.out⟩
end Go.Proofs.YtjjbmioicliipabDoor

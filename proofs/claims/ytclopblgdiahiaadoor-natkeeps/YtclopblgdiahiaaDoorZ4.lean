/-
  Walks of package nat's greatest common divisor: some, euclid. Walks of package nat's greatest common divisor: shorten. Walks of package nat's greatest common divisor: gcd, Gcd. The walk of nat's call Gcd, whatever it is handed. Walks of the document's reference for nat: Form, Twin, Same, Low, two, light. Walks of the document's reference for nat: Twin, From, To. Walks of the document's reference for nat: Cmp, Add, Sub on digits, and the calls DocAdd, DocSub, DocCmp. Walks of the document's reference for nat: Sub on digits, and the calls DocAdd, DocSub, DocCmp. Walks of the document's reference for nat: the calls DocAdd, DocSub, DocCmp. Walks of nat.Shl and of the document's reference: Shl, DocShl. Walks of package nat's texts: bytes.TrimLeft of noughts, digits, Text. Walks of package nat's calls Text, DivMod and Gcd. The walk of the statements' own look at answers that the document fixes (awake). The walk of the statement's answers: the lists that nat's calls answer, each in a block of its own. The walk of the statement NatSums.
-/
import Derived.Test.YtclopblgdiahiaaDoorZ3
import Derived.Test.YtclopblgdiahiaaDoorZ0
import Derived.Test.YtclopblgdiahiaaDoorZ2
namespace Go.Proofs.YtclopblgdiahiaaDoor
open Go.RowKit

set_option maxHeartbeats 400000 in
theorem some_c (a0 b0 a1 b1 : Int) (odd : Bool) (w : World) : Calls Tryd.prog 63 #[.agg #[.int .u64 a0, .int .u64 b0, .int .u64 a1, .int .u64 b1, .bool odd]] w fun e w' => e = .returned (.bool (b0 != 0)) ∧ Below w.heap.size w w' := by
  go_enter Tryd.func63, Tryd.ntmps63
  go_wp2
  go_ret
  exact ⟨rfl, (Below.refl _ _).alloc (Nat.le_refl _) _⟩

/-- A number in a block of the call's own (blocks from base on). -/
def One (base : Nat) (w : World) (x : Option Addr) (k c g : Nat) (A : Int) : Prop := ∃ P, x = some ⟨g, 0, none⟩ ∧ 0 < k ∧ k ≤ c ∧ c ≤ 140737488355328 ∧ base ≤ g ∧ Blk .u64 26 w g c P ∧ Lm P c ∧ Fm P k ∧ vf P k = A
theorem One.below {base w w' x k c g A} (h : One base w x k c g A) (hb : Below w.heap.size w w') : One base w' x k c g A := by
  obtain ⟨P, h1, h2, h3, h4, h5, h6, h7, h8, h9⟩ := h
  exact ⟨P, h1, h2, h3, h4, h5, h6.below hb h6.lt, h7, h8, h9⟩
/-- Two numbers, the second maybe 0, in blocks of their own. -/
def Two (base : Nat) (w : World) (x1 : Option Addr) (k1 c1 : Nat) (x2 : Option Addr) (k2 c2 : Nat) (A B : Int) : Prop :=
  ∃ g1, One base w x1 k1 c1 g1 A ∧ 0 ≤ B ∧ B ≤ A ∧ ((x2 = none ∧ k2 = 0 ∧ c2 = 0 ∧ B = 0) ∨ ∃ g2, g1 ≠ g2 ∧ One base w x2 k2 c2 g2 B)
theorem Two.below {base w w' x1 k1 c1 x2 k2 c2 A B} (h : Two base w x1 k1 c1 x2 k2 c2 A B) (hb : Below w.heap.size w w') : Two base w' x1 k1 c1 x2 k2 c2 A B := by
  obtain ⟨g1, h1, h2, h3, h4⟩ := h
  exact ⟨g1, h1.below hb, h2, h3, h4.imp id (fun ⟨g2, a, b⟩ => ⟨g2, a, b.below hb⟩)⟩

set_option maxRecDepth 100000 in
set_option maxHeartbeats 8000000 in
theorem euclid_c (base : Nat) (x1 x2 : Option Addr) (k1 c1 k2 c2 K : Nat) (A B : Int) (w : World) (h : Two base w x1 k1 c1 x2 k2 c2 A B) (hk2 : 2 ≤ k2) (hAK : A < pw K) (hK : K ≤ 8796093022207) (hbase : base ≤ w.heap.size) :
    Calls Tryd.prog 48 #[.slice x1 k1 c1, .slice x2 k2 c2] w fun e w' => ∃ y1 l1 d1 y2 l2 d2 A' B', e = .returned (.tuple #[.slice y1 l1 d1, .slice y2 l2 d2]) ∧ Below base w w' ∧ Two base w' y1 l1 d1 y2 l2 d2 A' B' ∧ Cd A' B' A B ∧ B' < B ∧ A' ≤ A := by
  obtain ⟨g1, ⟨P, rfl, a1, a2, a3, a4, hbP, lP, fP, vP⟩, b0, b1, h2⟩ := h
  rcases h2 with ⟨_, hz, _⟩ | ⟨g2, hne, Q, rfl, e1, e2, e3, e4, hbQ, lQ, fQ, vQ⟩
  · omega
  have hk1K : k1 ≤ K := mid_len (lP.mono a2) fP (by rw [vP]; exact hAK)
  have hk21 : k2 ≤ k1 := vf_len (lQ.mono e2) (lP.mono a2) fQ (by rw [vP, vQ]; exact b1)
  have hA0 : 0 ≤ A := by rw [← vP]; exact vf_nonneg (lP.mono a2)
  have hBlt : B < pw k2 := by rw [← vQ]; exact vf_lt (lQ.mono e2)
  obtain ⟨x, y, hT, cH⟩ := highBits_c (some ⟨g1, 0, none⟩) (some ⟨g2, 0, none⟩) k1 k2 c1 c2 P Q w (by omega) (by omega) hk21 (hbP.rd0 a2) (hbQ.rd0 e2) (lP.mono a2) (lQ.mono e2) fP (by rw [vP, vQ]; exact b1)
  rw [vP, vQ] at hT
  obtain ⟨t1, t2, t3, t4, T, ra, rb, hA, hB, ra0, ra1, rb0, rb1⟩ := hT
  have CH := hid cH
  have CF := hid (fun W => findSteps_c x y W t3 t4 (by omega) t2)
  have HP := hid hbP; have HQ := hid hbQ; have LP := hid lP; have LQ := hid lQ; have FP := hid fP; have FQ := hid fQ; have VP := hid vP; have VQ := hid vQ; have HA := hid hA; have HB := hid hB; have BLT := hid hBlt
  clear cH hbP hbQ lP lQ fP fQ vP vQ hA hB hBlt hAK
  go_enter Tryd.func48, Tryd.ntmps48
  go_wp2_with fail
  refine CH.out.mono ?_
  rintro e w1 ⟨rfl, q1, rfl⟩
  go_wp2_with fail
  refine (CF.out _).mono ?_
  rintro e w2 ⟨hbel2, a0, b0', a1', b1', odd, a, b, rfl, hL, hx0⟩
  have HL := hid hL; have HX0 := hid hx0
  have BE2 := hid (show Below w.heap.size w w2 from ⟨hbel2.os, hbel2.tape, hbel2.output, hbel2.size, hbel2.block⟩)
  clear hL hx0 hbel2 CF CH
  go_wp2_with fail
  refine (some_c a0 b0' a1' b1' odd _).mono ?_
  rintro e w3 ⟨rfl, hbel3⟩
  have hS3 : SB w3 w2.heap.size a0 b0' a1' b1' odd := (show SB (w2.alloc _) w2.heap.size a0 b0' a1' b1' odd from heap_alloc_new w2 _).below hbel3
  have z2 := BE2.out.size
  have BE3 := hid (show Below w.heap.size w w3 from (BE2.out.alloc z2 _).trans (hbel3.mono (by simp; omega)))
  have HP3 := hid (HP.out.below BE3.out HP.out.lt); have HQ3 := hid (HQ.out.below BE3.out HQ.out.lt)
  obtain ⟨s0, s1, s2, s3, s4⟩ := hS3.cells
  have g1lt := HP.out.lt; have g2lt := HQ.out.lt
  clear hbel3 hS3 HP HQ
  by_cases hz : b0' = 0
  · have hzb : (b0' != 0) = false := by simp [hz]
    rw [hzb]
    go_wp2_with fail
    refine (divMod_c (some ⟨g1, 0, none⟩) (some ⟨g2, 0, none⟩) k1 k2 c1 c2 P Q w3 (by omega) (by omega) (HP3.out.rd0 a2) (HQ3.out.rd0 e2) (LP.out.mono a2) (LQ.out.mono e2) FP.out FQ.out (by omega)).mono ?_
    rintro e w4 ⟨xq, kq, cq, q, xr, kr, cr, r, rfl, hresq, hresr, hv, hr0, hr1⟩
    rw [VP.out, VQ.out] at hv
    rw [VQ.out] at hr1
    have HV := hid hv; have HR0 := hid hr0; have HR1 := hid hr1; have HRS := hid hresr
    have HQ4 := hid (HQ3.out.below hresr.bel HQ3.out.lt)
    clear hv hr0 hr1 hresq hresr
    go_wp2
    go_ret2
    have hb4 := BE3.out.trans (HRS.out.bel.mono BE3.out.size)
    refine ⟨_, k2, c2, _, kr, cr, B, vf r kr, rfl, hb4.mono hbase, ⟨g2, ⟨Q, rfl, by omega, e2, e3, e4, HQ4.out, LQ.out, FQ.out, VQ.out⟩, HR0.out, by have := HR1.out; omega, ?_⟩, ?_, HR1.out, b1⟩
    · have hnc := HRS.out.ncap
      have z3 := BE3.out.size
      rcases HRS.out.own with ⟨rfl, rfl, rfl⟩ | ⟨gr, rfl, hgr, hk0, hkc, hcC, hbr⟩
      · exact .inl ⟨rfl, rfl, rfl, rfl⟩
      · exact .inr ⟨gr, by omega, r, rfl, hk0, hkc, by omega, by omega, hbr, HRS.out.lmc, HRS.out.fm, rfl⟩
    · have e : vf r kr = A - vf q kq * B := by have := HV.out; omega
      rw [e]
      exact (Cd.refl A B).step _
  · have hzb : (b0' != 0) = true := by simp [hz]
    rw [hzb]
    obtain ⟨hled, m0, m1, m2, m3⟩ := lh_some HL.out hz
    obtain ⟨n0, n1, n2, n3⟩ := lh_none HL.out
    have hl := hled T ra rb ra0 ra1 rb0 rb1
    rw [← HA.out, ← HB.out] at hl
    obtain ⟨l1, l2, l3, l4⟩ := hl
    have HC := hid l4
    clear l4 hled
    obtain ⟨U, hU⟩ : ∃ U, stU odd a0 b0' A B = U := ⟨_, rfl⟩
    obtain ⟨V, hV⟩ : ∃ V, stV odd a1' b1' A B = V := ⟨_, rfl⟩
    rw [hU, hV] at HC
    rw [hV] at l1 l2
    rw [hU] at l2 l3
    have CA := hid (apply_c g1 g2 c1 c2 k1 k2 P Q a0 b0' a1' b1' odd w3 HP3.out HQ3.out LP.out LQ.out hne a2 e2 hk21 (by omega) a3 e3 ⟨n0, by omega⟩ ⟨n1, by omega⟩ ⟨n2, by omega⟩ ⟨n3, by omega⟩ U V (by rw [VP.out, VQ.out]; exact hU) (by rw [VP.out, VQ.out]; exact hV) (by omega) (by have := BLT.out; omega) (by omega) (by have := BLT.out; omega))
    clear hU hV hz
    go_wp2_with fail
    refine CA.out.mono ?_
    rintro e w4 ⟨hon2, gp, gq, Np, Nq, t1', t2', d1, d2, P', Q', y1, y2, rfl, hside, hbp, hbq, lp, lq, hNp, hNq, hx1, hx2, hl1, hl2, fp, fq, vp, vq⟩
    have H1 := hid hside; have H2 := hid hbp; have H3 := hid hbq; have H4 := hid lp; have H5 := hid lq; have H6 := hid hx1; have H7 := hid hx2; have H8 := hid fp; have H9 := hid fq; have H10 := hid vp; have H11 := hid vq; have HON := hid hon2
    clear hside hbp hbq lp lq hx1 hx2 fp fq vp vq hon2 CA
    go_wp2
    go_ret2
    have z3 := BE3.out.size
    have hb4 : Below base w w4 := HON.out.below (BE3.out.mono hbase) a4 e4 (by omega)
    have hgp : base ≤ gp ∧ base ≤ gq ∧ gp ≠ gq := by rcases H1.out with ⟨rfl, rfl⟩ | ⟨rfl, rfl⟩ <;> omega
    refine ⟨y1, t1', d1, y2, t2', d2, U, V, rfl, hb4, ⟨gp, ?_, by omega, by omega, ?_⟩, HC.out, by omega, by omega⟩
    · rcases H6.out with ⟨_, hk0, _⟩ | ⟨h1, h2, h3⟩
      · have := H10.out
        rw [hk0] at this
        simp [vf] at this
        omega
      · exact ⟨P', h1, h2, by omega, by omega, hgp.1, by rw [h3]; exact H2.out, by rw [h3]; exact H4.out, H8.out, H10.out⟩
    · rcases H7.out with ⟨h1, h2, h3⟩ | ⟨h1, h2, h3⟩
      · left
        refine ⟨h1, h2, h3, ?_⟩
        rw [← H11.out, h2]; rfl
      · exact .inr ⟨gq, hgp.2.2, Q', h1, h2, by omega, by omega, hgp.2.1, by rw [h3]; exact H3.out, by rw [h3]; exact H5.out, H9.out, H11.out⟩
end Go.Proofs.YtclopblgdiahiaaDoor
namespace Go.Proofs.YtclopblgdiahiaaDoor
open Go.RowKit

/-- The number that a list in memory tells. -/
noncomputable def vOf (w : World) (v : Value) : Nat := match v with
  | .slice (some a) k _ => (vf (fun j => match w.cell? ⟨a.block, a.off + j, none⟩ with | some (.int _ z) => z | _ => 0) k).toNat
  | _ => 0
theorem vOf_none (w : World) (k c : Nat) : vOf w (.slice none k c) = 0 := rfl
theorem One.vOf {base w x k c g A} (h : One base w x k c g A) : vOf w (.slice x k c) = A.toNat := by
  obtain ⟨P, rfl, h2, h3, h4, h5, h6, h7, h8, h9⟩ := h
  rw [← h9]
  show (vf _ k).toNat = _
  congr 1
  refine vf_congr (fun j hj => ?_)
  have := h6.cell (j := j) (by omega)
  simp only [Nat.zero_add]
  rw [this]
theorem Two.vOf {base w x1 k1 c1 x2 k2 c2 A B} (h : Two base w x1 k1 c1 x2 k2 c2 A B) : vOf w (.slice x2 k2 c2) = B.toNat := by
  obtain ⟨g1, h1, h2, h3, h4⟩ := h
  rcases h4 with ⟨rfl, rfl, rfl, rfl⟩ | ⟨g2, _, h5⟩
  · rfl
  · exact h5.vOf

set_option maxRecDepth 100000 in
set_option maxHeartbeats 4000000 in
theorem shorten_c (base : Nat) (x1 x2 : Option Addr) (k1 c1 k2 c2 K : Nat) (A B : Int) (w : World) (h : Two base w x1 k1 c1 x2 k2 c2 A B) (hAK : A < pw K) (hK : K ≤ 8796093022207) (hbase : base ≤ w.heap.size) :
    Calls Tryd.prog 32 #[.slice x1 k1 c1, .slice x2 k2 c2] w fun e w' => ∃ y1 l1 d1 y2 l2 d2 A' B', e = .returned (.tuple #[.slice y1 l1 d1, .slice y2 l2 d2]) ∧ Below base w w' ∧ Two base w' y1 l1 d1 y2 l2 d2 A' B' ∧ Cd A' B' A B ∧ l2 ≤ 1 ∧ A' ≤ A := by
  have HT := hid h; have HAK := hid hAK
  clear h hAK
  go_enter Tryd.func32, Tryd.ntmps32
  go_wp2
  go_loopw [0, 1] (fun u v wr => ∃ (y1 : Option Addr) (l1 d1 : Nat) (y2 : Option Addr) (l2 d2 : Nat) (A' B' : Int), u = .slice y1 l1 d1 ∧ v = .slice y2 l2 d2 ∧ Hid (Below base w wr) ∧ base ≤ wr.heap.size ∧ Hid (Two base wr y1 l1 d1 y2 l2 d2 A' B') ∧ Hid (Cd A' B' A B) ∧ Hid (A' ≤ A)) (fun _ v wr => vOf wr v)
  case atStart => exact ⟨x1, k1, c1, x2, k2, c2, A, B, rfl, rfl, Below.refl _ _, hbase, HT.out, Cd.refl _ _, Int.le_refl _⟩
  case round =>
    clear HT
    obtain ⟨y1, l1, d1, y2, l2, d2, A', B', rfl, rfl, HB, hbs, HT, HC, HA⟩ := hrel
    by_cases hl : 1 < l2
    · have hlb : decide ((1 : Int) < (l2 : Int)) = true := by simp; omega
      have CE := hid (euclid_c base y1 y2 l1 d1 l2 d2 K A' B' wr HT.out (by omega) (by have := HA.out; have := HAK.out; omega) hK hbs)
      go_wp2_with fail
      refine CE.out.mono ?_
      rintro e w2 ⟨z1, m1, f1, z2, m2, f2, A2, B2, rfl, hb2, ht2, hc2, hlt, hle⟩
      have H1 := hid (HB.out.trans hb2); have H2 := hid ht2; have H3 := hid (hc2.trans HC.out); have H4 := hid hlt; have H5 := hid (show A2 ≤ A by have := HA.out; omega)
      have hsz := hb2.size
      clear hb2 ht2 hc2 hlt hle CE
      go_wp2
      go_roundw
      case rel => exact ⟨z1, m1, f1, z2, m2, f2, A2, B2, rfl, rfl, H1.out, by omega, H2.out, H3.out, H5.out⟩
      case measure =>
        have e1 := H2.out.vOf
        have e2 := HT.out.vOf
        have h0 : 0 ≤ B2 := by obtain ⟨_, _, h, _⟩ := H2.out; exact h
        have hlt := H4.out
        show vOf w2 (.slice z2 m2 f2) < vOf wr (.slice y2 l2 d2)
        rw [e1, e2]; omega
    · have hlb : decide ((1 : Int) < (l2 : Int)) = false := by simp; omega
      go_wp2
      go_ret2
      exact ⟨y1, l1, d1, y2, l2, d2, A', B', rfl, HB.out, HT.out, HC.out, by omega, HA.out⟩
end Go.Proofs.YtclopblgdiahiaaDoor
namespace Go.Proofs.YtclopblgdiahiaaDoor
open Go.RowKit

theorem cd_gcd {u v A B : Int} (h : Cd u v A B) (u0 : 0 ≤ u) (v0 : 0 ≤ v) (A0 : 0 ≤ A) (B0 : 0 ≤ B) : Nat.gcd u.toNat v.toNat = Nat.gcd A.toNat B.toNat := by
  have key : ∀ {p q r s : Int}, Cd p q r s → 0 ≤ p → 0 ≤ q → 0 ≤ r → 0 ≤ s → Nat.gcd p.toNat q.toNat ∣ Nat.gcd r.toNat s.toNat := by
    intro p q r s h p0 q0 r0 s0
    have h1 : ((Nat.gcd p.toNat q.toNat : Nat) : Int) ∣ p := by
      have := Int.natCast_dvd_natCast.2 (Nat.gcd_dvd_left p.toNat q.toNat)
      rwa [Int.toNat_of_nonneg p0] at this
    have h2 : ((Nat.gcd p.toNat q.toNat : Nat) : Int) ∣ q := by
      have := Int.natCast_dvd_natCast.2 (Nat.gcd_dvd_right p.toNat q.toNat)
      rwa [Int.toNat_of_nonneg q0] at this
    obtain ⟨h3, h4⟩ := (h _).1 ⟨h1, h2⟩
    refine Nat.dvd_gcd ?_ ?_
    · apply Int.natCast_dvd_natCast.1; rwa [Int.toNat_of_nonneg r0]
    · apply Int.natCast_dvd_natCast.1; rwa [Int.toNat_of_nonneg s0]
  exact Nat.dvd_antisymm (key h u0 v0 A0 B0) (key (fun d => (h d).symm) A0 B0 u0 v0)

set_option maxRecDepth 100000 in
set_option maxHeartbeats 8000000 in
theorem gcd_c (ao bo : Option Addr) (n m ca cb : Nat) (f h : Nat → Int) (w : World) (hn : n ≤ 8796093022207) (hm : m ≤ 8796093022207) (hr : Rd .u64 w ao n f) (hs : Rd .u64 w bo m h) (hf : Lm f n) (hh : Lm h m) (ff : Fm f n) (fh : Fm h m) :
    Calls Tryd.prog 19 #[.slice ao n ca, .slice bo m cb] w fun e w' => ∃ ao' k cap' f', e = .returned (.slice ao' k cap') ∧ Res (max n m + 1) w w' ao' k cap' f' ∧ vf f' k = (Nat.gcd (vf f n).toNat (vf h m).toNat : Nat) := by
  have CC := hid (cmp_c ao bo n m ca cb f h w (by omega) (by omega) hr hs hf hh ff fh)
  have HRa := hid hr; have HRb := hid hs; have HLa := hid hf; have HLb := hid hh; have HFa := hid ff; have HFb := hid fh
  clear hr hs hf hh ff fh
  by_cases hlt : vf f n < vf h m
  · skip
    have HLt := hid hlt
    clear hlt
    rcases (show n = 0 ∨ n = 1 ∨ 2 ≤ n by omega) with hb0 | hb1 | hb2
    · have hBz : vf f n = 0 := by rw [hb0]; rfl
      have HBz := hid hBz
      subst hb0
      clear hBz
      go_enter Tryd.func19, Tryd.ntmps19
      go_wp2_with fail
      refine CC.out.mono ?_
      rintro e w1 ⟨⟨q, rfl⟩, c, rfl, ho⟩
      have hc : c = -1 := by have := HLt.out; unfold Ord at ho; omega
      subst hc
      clear ho
      go_wp2_with fail
      refine (clone_c bo m cb h _ (by omega) (show Rd .u64 (w.drewN q) bo m h from HRb.out) HLb.out).mono ?_
      rintro e w9 ⟨xr, kr, cr, rfl, hres, hkr, hv⟩
      have HRS := hid hres; have HVr := hid hv
      clear hres hv
      go_wp2
      go_ret
      refine ⟨xr, kr, cr, h, rfl, (HRS.out.ahead (below_drewN (Below.refl w.heap.size w) q)).mono (by omega), ?_⟩
      rw [HVr.out, show vf h m = vf h m from rfl]
      rw [show vf f 0 = 0 from rfl]; rw [Nat.gcd_comm]; simp [Int.toNat_of_nonneg (vf_nonneg HLb.out)]
    · subst hb1
      obtain ⟨bb, ob, rfl⟩ := HRa.out.at (by omega)
      obtain ⟨x, hx⟩ : ∃ x, f 0 = x := ⟨_, rfl⟩
      have hcell : w.cell? ⟨bb, ob, none⟩ = some (.int .u64 x) := by rw [← hx]; exact HRa.out.cell (j := 0) (by omega)
      have hx01 := HLa.out 0 (by omega)
      have hx2 : x ≠ 0 := by rw [← hx]; rcases HFa.out with h | h; omega; exact h
      rw [hx] at hx01
      obtain ⟨xn, rfl⟩ := Int.eq_ofNat_of_zero_le hx01.1
      have HVB := hid (show vf f 1 = (xn : Int) by simp [vf, pw, hx])
      clear hx
      go_enter Tryd.func19, Tryd.ntmps19
      go_wp2_with fail
      refine CC.out.mono ?_
      rintro e w1 ⟨⟨q, rfl⟩, c, rfl, ho⟩
      have hc : c = -1 := by have := HLt.out; unfold Ord at ho; omega
      subst hc
      clear ho
      have hA0 := vf_nonneg HLb.out
      obtain ⟨R, hR⟩ : ∃ R : Nat, (vf h m % (xn : Int)) = R := ⟨(vf h m % (xn : Int)).toNat, by have := Int.emod_nonneg (vf h m) (show (xn : Int) ≠ 0 by omega); omega⟩
      have hR1 : (R : Int) < xn := by rw [← hR]; exact Int.emod_lt_of_pos _ (by omega)
      have cm := fun W hr' => modWord_c bo m cb h xn W (by omega) hr' HLb.out (by omega) (by omega)
      rw [hR] at cm
      have cg := fun W => gcdWord_c xn R W (by omega) (by omega)
      have hgl : Nat.gcd xn R < 18446744073709551616 := Nat.lt_of_le_of_lt (Nat.gcd_le_left _ (by omega)) (by omega)
      have hfin : Nat.gcd xn R = Nat.gcd (vf h m).toNat xn := by
        have e : R = (vf h m).toNat % xn := by
          have : ((vf h m).toNat : Int) = vf h m := Int.toNat_of_nonneg hA0
          have h2 : (((vf h m).toNat % xn : Nat) : Int) = vf h m % (xn : Int) := by rw [Int.natCast_emod, this]
          omega
        rw [e, Nat.gcd_comm (vf h m).toNat xn, Nat.gcd_rec xn (vf h m).toNat, Nat.gcd_comm]
      generalize Nat.gcd xn R = G at *
      have CM := hid cm; have CG := hid cg; have HFin := hid hfin; have HRd := hid (show Rd .u64 (w.drewN q) bo m h from HRb.out)
      clear cm cg hfin hR hA0
      go_wp2
      go_region_with (first | (go_at_call 34; refine (CM.out _ (by exact HRd.out)).mono ?_; rintro e w' ⟨rfl, q1, rfl⟩) | (go_at_call 33; refine (CG.out _).mono ?_; rintro e w' ⟨rfl, q2, rfl⟩) | (go_at_call 30; refine (fromWord_c G _ (by omega) (by omega)).mono ?_; rintro e w' ⟨xr, kr, cr, fr, rfl, hres, hv'⟩))
      all_goals
        go_wp2
        go_ret
        refine ⟨xr, kr, cr, fr, rfl, (hres.ahead (by repeat (first | exact (below_drewN (Below.refl w.heap.size w) q) | exact Below.refl _ _ | refine below_drewN ?_ _ | refine Below.drew ?_))).mono (by omega), ?_⟩
        rw [hv', HFin.out, HVB.out]
        rw [Int.toNat_natCast, Nat.gcd_comm]
    · have CA := hid (fun W (hW : Rd .u64 W bo m h) => clone_c bo m cb h W (by omega) hW HLb.out)
      have CB := hid (fun W (hW : Rd .u64 W ao n f) => clone_c ao n ca f W (by omega) hW HLa.out)
      have d1 : decide ((1 : Int) < (n : Int)) = true := by simp; omega
      go_enter Tryd.func19, Tryd.ntmps19
      go_wp2_with fail
      refine CC.out.mono ?_
      rintro e w1 ⟨⟨q, rfl⟩, c, rfl, ho⟩
      have hc : c = -1 := by have := HLt.out; unfold Ord at ho; omega
      subst hc
      clear ho
      go_wp2_with fail
      refine (CA.out _ (by exact HRb.out)).mono ?_
      rintro e w2 ⟨xa', ka, ca', rfl, hresa, hka, hva⟩
      have hRb2 := HRa.out.below (show Below w.heap.size w w2 from ⟨hresa.bel.os, hresa.bel.tape, hresa.bel.output, hresa.bel.size, hresa.bel.block⟩) (Nat.le_refl _)
      have RESA := hid hresa; have HVa := hid hva; have HRb2 := hid hRb2
      clear hresa hva hRb2 CA
      go_wp2_with fail
      refine (CB.out _ HRb2.out).mono ?_
      rintro e w3 ⟨xb', kb, cb', rfl, hresb, hkb, hvb⟩
      have hTwo : Two w.heap.size w3 xa' ka ca' xb' kb cb' (vf h m) (vf f n) := by
        have hz : w.heap.size ≤ w2.heap.size := RESA.out.bel.size
        have hBp : 0 < vf f n := by have := vf_form_ge HLa.out HFa.out (by omega); have := pw_pos (n - 1); omega
        have hle : vf f n ≤ vf h m := by have := HLt.out; omega
        rcases RESA.out.own with ⟨_, h0, _⟩ | ⟨ga, e1, e2, e3, e4, e5, e6⟩
        · have := HVa.out; rw [h0] at this; simp [vf] at this; omega
        · rcases hresb.own with ⟨_, h0, _⟩ | ⟨gb, f1, f2, f3, f4, f5, f6⟩
          · rw [h0] at hvb; simp [vf] at hvb; omega
          · refine ⟨ga, ⟨h, e1, e3, e4, by omega, by simpa using e2, e6.below hresb.bel e6.lt, RESA.out.lmc, RESA.out.fm, HVa.out⟩, by omega, hle, .inr ⟨gb, ?_, f, f1, f3, f4, by omega, by omega, f6, hresb.lmc, hresb.fm, hvb⟩⟩
            have := e6.lt; omega
      have hb3 : Below w.heap.size w w3 := (show Below w.heap.size w w2 from ⟨RESA.out.bel.os, RESA.out.bel.tape, RESA.out.bel.output, RESA.out.bel.size, RESA.out.bel.block⟩).trans (hresb.bel.mono RESA.out.bel.size)
      have CS := hid (shorten_c w.heap.size xa' xb' ka ca' kb cb' m (vf h m) (vf f n) w3 hTwo (vf_lt HLb.out) (by omega) hb3.size)
      have BE3 := hid hb3
      clear hTwo hb3 hresb hvb RESA HVa HRb2 CB d1
      go_wp2_with fail
      refine CS.out.mono ?_
      rintro e w4 ⟨y1, l1, d1, y2, l2, d2, A', B', rfl, hb4, hT, hC, hl2, hA'⟩
      obtain ⟨g1, ⟨P, rfl, o1, o2, o3, o4, hbP, lP, fP, vP⟩, B0, BA, h2⟩ := hT
      have BE4 := hid (BE3.out.trans hb4)
      have HCd := hid hC
      have hl1 : l1 ≤ m := by
        have := vf_lt HLb.out
        exact mid_len (lP.mono o2) fP (by rw [vP]; omega)
      have HP := hid (hbP.rd0 o2); have LP := hid (lP.mono o2); have VP := hid vP
      clear hb4 hC hbP lP fP vP CS
      have hgc : Hid (Nat.gcd A'.toNat B'.toNat = Nat.gcd (vf h m).toNat (vf f n).toNat) := cd_gcd HCd.out (by omega) B0 (vf_nonneg HLb.out) (vf_nonneg HLa.out)
      rcases h2 with ⟨rfl, rfl, rfl, rfl⟩ | ⟨g2, hne, Q, rfl, u1, u2, u3, u4, hbQ, lQ, fQ, vQ⟩
      · have hA0 : 0 ≤ A' := by omega
        clear B0 BA
        go_wp2_with fail
        refine (clone_c (some ⟨g1, 0, none⟩) l1 d1 P _ (by omega) HP.out LP.out).mono ?_
        rintro e w9 ⟨xr, kr, cr, rfl, hres, hkr, hv⟩
        have HRS := hid hres; have HVr := hid hv
        clear hres hv
        go_wp2
        go_ret
        refine ⟨xr, kr, cr, P, rfl, (HRS.out.ahead BE4.out).mono (by omega), ?_⟩
        rw [HVr.out, VP.out]
        rw [Nat.gcd_comm]; rw [← hgc.out]; simp [Int.toNat_of_nonneg hA0]
      · obtain rfl : l2 = 1 := by omega
        obtain ⟨x, hx⟩ : ∃ x, Q 0 = x := ⟨_, rfl⟩
        have hcell : w4.cell? ⟨g2, 0, none⟩ = some (.int .u64 x) := by rw [← hx]; exact hbQ.cell (j := 0) (by omega)
        have hx01 := lQ 0 (by omega)
        have hx2 : x ≠ 0 := by rw [← hx]; rcases fQ with h | h; omega; exact h
        rw [hx] at hx01
        obtain ⟨xn, rfl⟩ := Int.eq_ofNat_of_zero_le hx01.1
        have hvB : B' = (xn : Int) := by rw [← vQ]; simp [vf, pw, hx]
        subst hvB
        clear hx hbQ lQ fQ vQ B0 BA
        have hA0 := vf_nonneg LP.out
        obtain ⟨R, hR⟩ : ∃ R : Nat, (vf P l1 % (xn : Int)) = R := ⟨(vf P l1 % (xn : Int)).toNat, by have := Int.emod_nonneg (vf P l1) (show (xn : Int) ≠ 0 by omega); omega⟩
        have hR1 : (R : Int) < xn := by rw [← hR]; exact Int.emod_lt_of_pos _ (by omega)
        have cm := fun W hr' => modWord_c (some ⟨g1, 0, none⟩) l1 d1 P xn W (by omega) hr' LP.out (by omega) (by omega)
        rw [hR] at cm
        have cg := fun W => gcdWord_c xn R W (by omega) (by omega)
        have hgl : Nat.gcd xn R < 18446744073709551616 := Nat.lt_of_le_of_lt (Nat.gcd_le_left _ (by omega)) (by omega)
        have hfin : Nat.gcd xn R = Nat.gcd (vf P l1).toNat xn := by
          have e : R = (vf P l1).toNat % xn := by
            have : ((vf P l1).toNat : Int) = vf P l1 := Int.toNat_of_nonneg hA0
            have h2 : (((vf P l1).toNat % xn : Nat) : Int) = vf P l1 % (xn : Int) := by rw [Int.natCast_emod, this]
            omega
          rw [e, Nat.gcd_comm (vf P l1).toNat xn, Nat.gcd_rec xn (vf P l1).toNat, Nat.gcd_comm]
        generalize Nat.gcd xn R = G at *
        have CM := hid cm; have CG := hid cg; have HFin := hid hfin; have HRd := hid HP.out
        clear cm cg hfin hR hA0
        go_wp2
        go_region_with (first | (go_at_call 34; refine (CM.out _ (by exact HRd.out)).mono ?_; rintro e w' ⟨rfl, q1, rfl⟩) | (go_at_call 33; refine (CG.out _).mono ?_; rintro e w' ⟨rfl, q2, rfl⟩) | (go_at_call 30; refine (fromWord_c G _ (by omega) (by omega)).mono ?_; rintro e w' ⟨xr, kr, cr, fr, rfl, hres, hv'⟩))
        all_goals
          go_wp2
          go_ret
          refine ⟨xr, kr, cr, fr, rfl, (hres.ahead (by repeat (first | exact BE4.out | exact Below.refl _ _ | refine below_drewN ?_ _ | refine Below.drew ?_))).mono (by omega), ?_⟩
          rw [hv', HFin.out, VP.out]
          rw [Nat.gcd_comm (vf f n).toNat, ← hgc.out, Int.toNat_natCast]
  · skip
    have HLt := hid hlt
    clear hlt
    rcases (show m = 0 ∨ m = 1 ∨ 2 ≤ m by omega) with hb0 | hb1 | hb2
    · have hBz : vf h m = 0 := by rw [hb0]; rfl
      have HBz := hid hBz
      subst hb0
      clear hBz
      go_enter Tryd.func19, Tryd.ntmps19
      go_wp2_with fail
      refine CC.out.mono ?_
      rintro e w1 ⟨⟨q, rfl⟩, c, rfl, ho⟩
      have hc : 0 ≤ c := by have := HLt.out; unfold Ord at ho; omega
      clear ho
      go_wp2_with fail
      refine (clone_c ao n ca f _ (by omega) (show Rd .u64 (w.drewN q) ao n f from HRa.out) HLa.out).mono ?_
      rintro e w9 ⟨xr, kr, cr, rfl, hres, hkr, hv⟩
      have HRS := hid hres; have HVr := hid hv
      clear hres hv
      go_wp2
      go_ret
      refine ⟨xr, kr, cr, f, rfl, (HRS.out.ahead (below_drewN (Below.refl w.heap.size w) q)).mono (by omega), ?_⟩
      rw [HVr.out, show vf f n = vf f n from rfl]
      rw [show vf h 0 = 0 from rfl]; simp [Int.toNat_of_nonneg (vf_nonneg HLa.out)]
    · subst hb1
      obtain ⟨bb, ob, rfl⟩ := HRb.out.at (by omega)
      obtain ⟨x, hx⟩ : ∃ x, h 0 = x := ⟨_, rfl⟩
      have hcell : w.cell? ⟨bb, ob, none⟩ = some (.int .u64 x) := by rw [← hx]; exact HRb.out.cell (j := 0) (by omega)
      have hx01 := HLb.out 0 (by omega)
      have hx2 : x ≠ 0 := by rw [← hx]; rcases HFb.out with h | h; omega; exact h
      rw [hx] at hx01
      obtain ⟨xn, rfl⟩ := Int.eq_ofNat_of_zero_le hx01.1
      have HVB := hid (show vf h 1 = (xn : Int) by simp [vf, pw, hx])
      clear hx
      go_enter Tryd.func19, Tryd.ntmps19
      go_wp2_with fail
      refine CC.out.mono ?_
      rintro e w1 ⟨⟨q, rfl⟩, c, rfl, ho⟩
      have hc : 0 ≤ c := by have := HLt.out; unfold Ord at ho; omega
      clear ho
      have hA0 := vf_nonneg HLa.out
      obtain ⟨R, hR⟩ : ∃ R : Nat, (vf f n % (xn : Int)) = R := ⟨(vf f n % (xn : Int)).toNat, by have := Int.emod_nonneg (vf f n) (show (xn : Int) ≠ 0 by omega); omega⟩
      have hR1 : (R : Int) < xn := by rw [← hR]; exact Int.emod_lt_of_pos _ (by omega)
      have cm := fun W hr' => modWord_c ao n ca f xn W (by omega) hr' HLa.out (by omega) (by omega)
      rw [hR] at cm
      have cg := fun W => gcdWord_c xn R W (by omega) (by omega)
      have hgl : Nat.gcd xn R < 18446744073709551616 := Nat.lt_of_le_of_lt (Nat.gcd_le_left _ (by omega)) (by omega)
      have hfin : Nat.gcd xn R = Nat.gcd (vf f n).toNat xn := by
        have e : R = (vf f n).toNat % xn := by
          have : ((vf f n).toNat : Int) = vf f n := Int.toNat_of_nonneg hA0
          have h2 : (((vf f n).toNat % xn : Nat) : Int) = vf f n % (xn : Int) := by rw [Int.natCast_emod, this]
          omega
        rw [e, Nat.gcd_comm (vf f n).toNat xn, Nat.gcd_rec xn (vf f n).toNat, Nat.gcd_comm]
      generalize Nat.gcd xn R = G at *
      have CM := hid cm; have CG := hid cg; have HFin := hid hfin; have HRd := hid (show Rd .u64 (w.drewN q) ao n f from HRa.out)
      clear cm cg hfin hR hA0
      go_wp2
      go_region_with (first | (go_at_call 34; refine (CM.out _ (by exact HRd.out)).mono ?_; rintro e w' ⟨rfl, q1, rfl⟩) | (go_at_call 33; refine (CG.out _).mono ?_; rintro e w' ⟨rfl, q2, rfl⟩) | (go_at_call 30; refine (fromWord_c G _ (by omega) (by omega)).mono ?_; rintro e w' ⟨xr, kr, cr, fr, rfl, hres, hv'⟩))
      all_goals
        go_wp2
        go_ret
        refine ⟨xr, kr, cr, fr, rfl, (hres.ahead (by repeat (first | exact (below_drewN (Below.refl w.heap.size w) q) | exact Below.refl _ _ | refine below_drewN ?_ _ | refine Below.drew ?_))).mono (by omega), ?_⟩
        rw [hv', HFin.out, HVB.out]
        rw [Int.toNat_natCast]
    · have CA := hid (fun W (hW : Rd .u64 W ao n f) => clone_c ao n ca f W (by omega) hW HLa.out)
      have CB := hid (fun W (hW : Rd .u64 W bo m h) => clone_c bo m cb h W (by omega) hW HLb.out)
      have d1 : decide ((1 : Int) < (m : Int)) = true := by simp; omega
      go_enter Tryd.func19, Tryd.ntmps19
      go_wp2_with fail
      refine CC.out.mono ?_
      rintro e w1 ⟨⟨q, rfl⟩, c, rfl, ho⟩
      have hc : 0 ≤ c := by have := HLt.out; unfold Ord at ho; omega
      clear ho
      go_wp2_with fail
      refine (CA.out _ (by exact HRa.out)).mono ?_
      rintro e w2 ⟨xa', ka, ca', rfl, hresa, hka, hva⟩
      have hRb2 := HRb.out.below (show Below w.heap.size w w2 from ⟨hresa.bel.os, hresa.bel.tape, hresa.bel.output, hresa.bel.size, hresa.bel.block⟩) (Nat.le_refl _)
      have RESA := hid hresa; have HVa := hid hva; have HRb2 := hid hRb2
      clear hresa hva hRb2 CA
      go_wp2_with fail
      refine (CB.out _ HRb2.out).mono ?_
      rintro e w3 ⟨xb', kb, cb', rfl, hresb, hkb, hvb⟩
      have hTwo : Two w.heap.size w3 xa' ka ca' xb' kb cb' (vf f n) (vf h m) := by
        have hz : w.heap.size ≤ w2.heap.size := RESA.out.bel.size
        have hBp : 0 < vf h m := by have := vf_form_ge HLb.out HFb.out (by omega); have := pw_pos (m - 1); omega
        have hle : vf h m ≤ vf f n := by have := HLt.out; omega
        rcases RESA.out.own with ⟨_, h0, _⟩ | ⟨ga, e1, e2, e3, e4, e5, e6⟩
        · have := HVa.out; rw [h0] at this; simp [vf] at this; omega
        · rcases hresb.own with ⟨_, h0, _⟩ | ⟨gb, f1, f2, f3, f4, f5, f6⟩
          · rw [h0] at hvb; simp [vf] at hvb; omega
          · refine ⟨ga, ⟨f, e1, e3, e4, by omega, by simpa using e2, e6.below hresb.bel e6.lt, RESA.out.lmc, RESA.out.fm, HVa.out⟩, by omega, hle, .inr ⟨gb, ?_, h, f1, f3, f4, by omega, by omega, f6, hresb.lmc, hresb.fm, hvb⟩⟩
            have := e6.lt; omega
      have hb3 : Below w.heap.size w w3 := (show Below w.heap.size w w2 from ⟨RESA.out.bel.os, RESA.out.bel.tape, RESA.out.bel.output, RESA.out.bel.size, RESA.out.bel.block⟩).trans (hresb.bel.mono RESA.out.bel.size)
      have CS := hid (shorten_c w.heap.size xa' xb' ka ca' kb cb' n (vf f n) (vf h m) w3 hTwo (vf_lt HLa.out) (by omega) hb3.size)
      have BE3 := hid hb3
      clear hTwo hb3 hresb hvb RESA HVa HRb2 CB d1
      go_wp2_with fail
      refine CS.out.mono ?_
      rintro e w4 ⟨y1, l1, d1, y2, l2, d2, A', B', rfl, hb4, hT, hC, hl2, hA'⟩
      obtain ⟨g1, ⟨P, rfl, o1, o2, o3, o4, hbP, lP, fP, vP⟩, B0, BA, h2⟩ := hT
      have BE4 := hid (BE3.out.trans hb4)
      have HCd := hid hC
      have hl1 : l1 ≤ n := by
        have := vf_lt HLa.out
        exact mid_len (lP.mono o2) fP (by rw [vP]; omega)
      have HP := hid (hbP.rd0 o2); have LP := hid (lP.mono o2); have VP := hid vP
      clear hb4 hC hbP lP fP vP CS
      have hgc : Hid (Nat.gcd A'.toNat B'.toNat = Nat.gcd (vf f n).toNat (vf h m).toNat) := cd_gcd HCd.out (by omega) B0 (vf_nonneg HLa.out) (vf_nonneg HLb.out)
      rcases h2 with ⟨rfl, rfl, rfl, rfl⟩ | ⟨g2, hne, Q, rfl, u1, u2, u3, u4, hbQ, lQ, fQ, vQ⟩
      · have hA0 : 0 ≤ A' := by omega
        clear B0 BA
        go_wp2_with fail
        refine (clone_c (some ⟨g1, 0, none⟩) l1 d1 P _ (by omega) HP.out LP.out).mono ?_
        rintro e w9 ⟨xr, kr, cr, rfl, hres, hkr, hv⟩
        have HRS := hid hres; have HVr := hid hv
        clear hres hv
        go_wp2
        go_ret
        refine ⟨xr, kr, cr, P, rfl, (HRS.out.ahead BE4.out).mono (by omega), ?_⟩
        rw [HVr.out, VP.out]
        rw [← hgc.out]; simp [Int.toNat_of_nonneg hA0]
      · obtain rfl : l2 = 1 := by omega
        obtain ⟨x, hx⟩ : ∃ x, Q 0 = x := ⟨_, rfl⟩
        have hcell : w4.cell? ⟨g2, 0, none⟩ = some (.int .u64 x) := by rw [← hx]; exact hbQ.cell (j := 0) (by omega)
        have hx01 := lQ 0 (by omega)
        have hx2 : x ≠ 0 := by rw [← hx]; rcases fQ with h | h; omega; exact h
        rw [hx] at hx01
        obtain ⟨xn, rfl⟩ := Int.eq_ofNat_of_zero_le hx01.1
        have hvB : B' = (xn : Int) := by rw [← vQ]; simp [vf, pw, hx]
        subst hvB
        clear hx hbQ lQ fQ vQ B0 BA
        have hA0 := vf_nonneg LP.out
        obtain ⟨R, hR⟩ : ∃ R : Nat, (vf P l1 % (xn : Int)) = R := ⟨(vf P l1 % (xn : Int)).toNat, by have := Int.emod_nonneg (vf P l1) (show (xn : Int) ≠ 0 by omega); omega⟩
        have hR1 : (R : Int) < xn := by rw [← hR]; exact Int.emod_lt_of_pos _ (by omega)
        have cm := fun W hr' => modWord_c (some ⟨g1, 0, none⟩) l1 d1 P xn W (by omega) hr' LP.out (by omega) (by omega)
        rw [hR] at cm
        have cg := fun W => gcdWord_c xn R W (by omega) (by omega)
        have hgl : Nat.gcd xn R < 18446744073709551616 := Nat.lt_of_le_of_lt (Nat.gcd_le_left _ (by omega)) (by omega)
        have hfin : Nat.gcd xn R = Nat.gcd (vf P l1).toNat xn := by
          have e : R = (vf P l1).toNat % xn := by
            have : ((vf P l1).toNat : Int) = vf P l1 := Int.toNat_of_nonneg hA0
            have h2 : (((vf P l1).toNat % xn : Nat) : Int) = vf P l1 % (xn : Int) := by rw [Int.natCast_emod, this]
            omega
          rw [e, Nat.gcd_comm (vf P l1).toNat xn, Nat.gcd_rec xn (vf P l1).toNat, Nat.gcd_comm]
        generalize Nat.gcd xn R = G at *
        have CM := hid cm; have CG := hid cg; have HFin := hid hfin; have HRd := hid HP.out
        clear cm cg hfin hR hA0
        go_wp2
        go_region_with (first | (go_at_call 34; refine (CM.out _ (by exact HRd.out)).mono ?_; rintro e w' ⟨rfl, q1, rfl⟩) | (go_at_call 33; refine (CG.out _).mono ?_; rintro e w' ⟨rfl, q2, rfl⟩) | (go_at_call 30; refine (fromWord_c G _ (by omega) (by omega)).mono ?_; rintro e w' ⟨xr, kr, cr, fr, rfl, hres, hv'⟩))
        all_goals
          go_wp2
          go_ret
          refine ⟨xr, kr, cr, fr, rfl, (hres.ahead (by repeat (first | exact BE4.out | exact Below.refl _ _ | refine below_drewN ?_ _ | refine Below.drew ?_))).mono (by omega), ?_⟩
          rw [hv', HFin.out, VP.out]
          rw [← hgc.out, Int.toNat_natCast]
end Go.Proofs.YtclopblgdiahiaaDoor
namespace Go.Proofs.YtclopblgdiahiaaDoor
open Go.RowKit

set_option maxHeartbeats 800000 in
theorem Gcd_c (ao bo : Option Addr) (n m ca cb : Nat) (f h : Nat → Int) (w : World) (hn : n ≤ 8796093022207) (hm : m ≤ 8796093022207) (hr : Rd .u64 w ao n f) (hs : Rd .u64 w bo m h) (hf : Lm f n) (hh : Lm h m) :
    Calls Tryd.prog 11 #[.slice ao n ca, .slice bo m cb] w fun e w' => ∃ ao' k cap' f' er, e = .returned (.tuple #[.slice ao' k cap', .int .i64 er]) ∧ Res (max n m + 1) w w' ao' k cap' f' ∧
      (Fm f n ∧ Fm h m ∧ er = 0 ∧ vf f' k = (Nat.gcd (vf f n).toNat (vf h m).toNat : Nat) ∨ ¬ (Fm f n ∧ Fm h m) ∧ er = 3 ∧ k = 0) := by
  have HF := (show Hid (Lm f n) from hf)
  have HH := (show Hid (Lm h m) from hh)
  clear hf hh
  cases hfa : fmB f n
  · have c1 := fun w' hr' => form_c ao n ca f w' (by omega) hr'
    rw [hfa] at c1
    have HN := hid (nfm_of hfa)
    have C1 := hid c1
    clear c1 hfa
    go_enter Tryd.func11, Tryd.ntmps11
    go_wp2_with (go_at_call 16; refine (C1.out _ hr).mono ?_; rintro e w' ⟨rfl, rfl⟩)
    go_ret2
    exact ⟨_, _, _, f, _, rfl, Res.nil f (Below.refl _ _), .inr ⟨fun x => HN.out x.1, rfl, rfl⟩⟩
  · have c1 := fun w' hr' => form_c ao n ca f w' (by omega) hr'
    rw [hfa] at c1
    have FA := hid (fm_of hfa)
    have C1 := hid c1
    clear c1 hfa
    cases hfb : fmB h m
    · have c2 := fun w' hr' => form_c bo m cb h w' (by omega) hr'
      rw [hfb] at c2
      have HN := hid (nfm_of hfb)
      have C2 := hid c2
      clear c2 hfb
      go_enter Tryd.func11, Tryd.ntmps11
      go_wp2_with fail
      refine (C1.out _ hr).mono ?_
      rintro e w' ⟨rfl, rfl⟩
      go_wp2_with fail
      refine (C2.out _ hs).mono ?_
      rintro e w' ⟨rfl, rfl⟩
      go_wp2
      go_ret2
      exact ⟨_, _, _, f, _, rfl, Res.nil f (Below.refl _ _), .inr ⟨fun x => HN.out x.2, rfl, rfl⟩⟩
    · have c2 := fun w' hr' => form_c bo m cb h w' (by omega) hr'
      rw [hfb] at c2
      have FB := hid (fm_of hfb)
      have C2 := hid c2
      clear c2 hfb
      go_enter Tryd.func11, Tryd.ntmps11
      go_wp2_with fail
      refine (C1.out _ hr).mono ?_
      rintro e w' ⟨rfl, rfl⟩
      go_wp2_with fail
      refine (C2.out _ hs).mono ?_
      rintro e w' ⟨rfl, rfl⟩
      go_wp2_with fail
      refine (gcd_c ao bo n m ca cb f h _ hn hm hr hs HF.out HH.out FA.out FB.out).mono ?_
      rintro e w' ⟨ao', k, cap', f', rfl, hres, hv⟩
      have HV := hid hv
      clear hv
      go_wp2
      go_ret2
      exact ⟨_, _, _, f', _, rfl, hres, .inl ⟨FA.out, FB.out, rfl, HV.out⟩⟩
end Go.Proofs.YtclopblgdiahiaaDoor
namespace Go.Proofs.YtclopblgdiahiaaDoor
open Go.RowKit

set_option maxHeartbeats 400000 in
theorem light_c (ao bo : Option Addr) (n m ca cb : Nat) (w : World) :
    Calls Tryd.prog 5 #[.slice ao n ca, .slice bo m cb] w fun e w' => e = .returned (.bool (decide (n ≤ 60 ∧ m ≤ 60))) ∧ w' = w := by
  by_cases h1 : n ≤ 60
  · have d1 : decide ((n : Int) ≤ 60) = true := by simp; omega
    by_cases h2 : m ≤ 60
    · have d2 : decide ((m : Int) ≤ 60) = true := by simp; omega
      have E : Hid (decide (n ≤ 60 ∧ m ≤ 60) = true) := by show _ = _; simp [h1, h2]
      go_enter Tryd.func5, Tryd.ntmps5
      go_wp2
      go_ret
      exact ⟨by rw [E.out]; rfl, rfl⟩
    · have d2 : decide ((m : Int) ≤ 60) = false := by simp; omega
      have E : Hid (decide (n ≤ 60 ∧ m ≤ 60) = false) := by show _ = _; simp [h2]
      go_enter Tryd.func5, Tryd.ntmps5
      go_wp2
      go_ret
      exact ⟨by rw [E.out]; rfl, rfl⟩
  · have d1 : decide ((n : Int) ≤ 60) = false := by simp; omega
    have E : Hid (decide (n ≤ 60 ∧ m ≤ 60) = false) := by show _ = _; simp [h1]
    go_enter Tryd.func5, Tryd.ntmps5
    go_wp2
    go_ret
    exact ⟨by rw [E.out]; rfl, rfl⟩

/-- Two lists are alike. -/
def Alk (n m : Nat) (f g : Nat → Int) : Prop := n = m ∧ ∀ j, j < n → f j = g j

set_option maxHeartbeats 800000 in
/-- Same: are two lists alike? -/
theorem same_c (ao bo : Option Addr) (n m ca cb : Nat) (f g : Nat → Int) (w : World) (hm : n ≤ 140737488355328) (hm' : m ≤ 140737488355328) (hr : Rd .u64 w ao n f) (hs : Rd .u64 w bo m g) :
    Calls Tryd.prog 8 #[.slice ao n ca, .slice bo m cb] w fun e w' => (∃ q, w' = w.drewN q) ∧ ∃ b, e = .returned (.bool b) ∧ (b = true ↔ Alk n m f g) := by
  by_cases hnm : n = m
  · subst hnm
    have h1 : ((n : Int) != n) = false := by simp
    go_enter Tryd.func8, Tryd.ntmps8
    go_wp2
    go_loopw [13] (fun t wr => ∃ i : Nat, i ≤ n ∧ t = .int .i64 i ∧ Hid (∀ j, j < i → f j = g j) ∧ ∃ q, wr = w.drewN q) (fun t _ => n - (intOf t).toNat)
    case atStart => exact ⟨0, by omega, rfl, fun j h1 => by omega, 0, rfl⟩
    case round =>
      obtain ⟨i, hin, rfl, HE, q, rfl⟩ := hrel
      by_cases hlt : i < n
      · obtain ⟨b, o, rfl⟩ := hr.at (by omega)
        obtain ⟨b', o', rfl⟩ := hs.at (by omega)
        obtain ⟨x, hx⟩ : ∃ x, f i = x := ⟨_, rfl⟩
        obtain ⟨y, hy⟩ : ∃ y, g i = y := ⟨_, rfl⟩
        have hca : w.cell? ⟨b, o + i, none⟩ = some (.int .u64 x) := by rw [← hx]; exact hr.cell (by omega)
        have hcb : w.cell? ⟨b', o' + i, none⟩ = some (.int .u64 y) := by rw [← hy]; exact hs.cell (by omega)
        have HX : Hid (f i = x) := hx
        have HY : Hid (g i = y) := hy
        clear hx hy hr hs
        by_cases hxy : x = y
        · subst hxy
          have hne : (x != x) = false := by simp
          go_wp2
          go_quiet (fail)
          go_wp2
          go_roundw
          case rel =>
            refine ⟨i + 1, by omega, by go_num, fun j h1 => ?_, _, rfl⟩
            by_cases hj : j = i
            · rw [hj]; exact HX.out.trans HY.out.symm
            · exact HE.out j (by omega)
          case measure => simp [intOf]; omega
        · have hne : (x != y) = true := by simp [hxy]
          go_wp2
          go_quiet (fail)
          go_wp2
          go_ret
          refine ⟨⟨_, by (repeat rw [World.drewN_drewN]) <;> rfl⟩, false, rfl, ⟨fun h => (by cases h), fun h => ?_⟩⟩
          have := h.2 i hlt
          rw [HX.out, HY.out] at this
          exact absurd this hxy
      · have hi : i = n := by omega
        subst hi
        go_wp2
        go_ret
        exact ⟨⟨_, rfl⟩, true, rfl, ⟨fun _ => ⟨rfl, HE.out⟩, fun _ => rfl⟩⟩
  · have h1 : ((n : Int) != m) = true := by simp; omega
    go_enter Tryd.func8, Tryd.ntmps8
    go_wp2
    go_ret
    exact ⟨⟨0, rfl⟩, false, rfl, ⟨fun h => (by cases h), fun h => absurd h.1 hnm⟩⟩
end Go.Proofs.YtclopblgdiahiaaDoor
namespace Go.Proofs.YtclopblgdiahiaaDoor
open Go.RowKit

set_option maxRecDepth 100000 in
set_option maxHeartbeats 400000 in
/-- Twin: a list of its own. -/
theorem twin_c (ao : Option Addr) (n cap : Nat) (f : Nat → Int) (w : World) (hn : n ≤ 1048576) (hr : Rd .u64 w ao n f) (hnil : ao = none → n = 0 ∧ cap = 0) :
    Calls Tryd.prog 6 #[.slice ao n cap] w fun e w' => ∃ ao' cap', e = .returned (.slice ao' n cap') ∧ Below w.heap.size w w' ∧ Rd .u64 w' ao' n f ∧ Own .u64 26 w' w.heap.size (.slice ao' n cap') n f := by
  cases ao with
  | none =>
    obtain ⟨rfl, rfl⟩ := hnil rfl
    go_enter Tryd.func6, Tryd.ntmps6
    obtain ⟨i0, hi, hz0, hz1, hz2⟩ := info_parts Tryd.infoU64
    go_wp2_with (at_builtin; refine wpList_append_own_none rfl (.tmp 4) (.tmp 5) 22 rfl w.heap.size 26 i0 1 Tryd.underlying22 hi (.slice none 0 0) 0 [] rfl (World.ownsRow_nil _ _ _ _) rfl ?_)
    go_ret
    exact ⟨none, 0, rfl, Below.refl _ _, Rd.zero, own_nil _ _ _ _ _⟩
  | some ad =>
    clear hnil
    have HR := hid hr
    clear hr
    go_enter Tryd.func6, Tryd.ntmps6
    obtain ⟨i0, hi, hz0, hz1, hz2⟩ := info_parts Tryd.infoU64
    go_wp2_with (at_builtin; refine wpList_append_own w rfl (.tmp 4) (.tmp 5) 22 rfl w.heap.size 26 i0 (.int .u64 0) 1 8 Tryd.underlying22 hi hz0 hz1 hz2 rfl (by decide) (.slice none 0 0) 0 [] rfl (World.ownsRow_nil _ _ _ _) ad n cap (lst .u64 f n) rfl (by rw [lst_length, Nat.mul_one]) ?c1 (lst_one _ _ _) ?c2 ?c3 (Nat.le_refl _) ?_)
    case c1 =>
      intro j u hu
      obtain ⟨hj, rfl⟩ := lst_getE hu
      obtain ⟨b, o, e, hc⟩ := HR.out j hj
      cases e
      rw [addr_add]; exact hc
    case c2 => unfold maxLen; omega
    case c3 => omega
    intro v' w' hown hgr _
    have hown' : Own .u64 26 w' w.heap.size v' n f := hown
    have hbel : Below w.heap.size w w' := (Below.refl _ _).grown hgr (Nat.le_refl _) (fun k h => by simp [Value.ownBlock] at h)
    have hs := hown'.shape
    obtain ⟨ao', cap', hv, hcc, hnn, hml, hrd, hlt⟩ := hs
    rw [hv] at hown' ⊢
    clear hown hgr hv
    have HO := hid hown'
    clear hown'
    go_wp2
    go_ret
    exact ⟨ao', cap', rfl, hbel, hrd, HO.out⟩

/-- The two digits of a limb. -/
def two32 (x : Int) : Nat → Int := fun j => if j = 0 then x % 4294967296 else x / 4294967296
/-- The digits of limbs. -/
def dig (f : Nat → Int) : Nat → Int := fun j => if j % 2 = 0 then f (j / 2) % 4294967296 else f (j / 2) / 4294967296
theorem dig_cat (f : Nat → Int) (k : Nat) : ∀ j, j < 2 * k + 2 → cat (dig f) (2 * k) (two32 (f k)) j = dig f j := by
  intro j hj
  by_cases h : j < 2 * k
  · exact cat_in h
  · rw [cat_out (by omega)]
    by_cases h2 : j = 2 * k
    · subst h2
      have e1 : 2 * k - 2 * k = 0 := by omega
      have e2 : 2 * k / 2 = k := by omega
      have e3 : 2 * k % 2 = 0 := by omega
      simp [two32, dig]
    · obtain rfl : j = 2 * k + 1 := by omega
      have e1 : 2 * k + 1 - 2 * k = 1 := by omega
      have e2 : (2 * k + 1) / 2 = k := by omega
      have e3 : (2 * k + 1) % 2 = 1 := by omega
      simp [two32, dig, e1, e2, e3]
theorem pd_two (k : Nat) : pd (2 * k) = pw k := by
  induction k with
  | zero => rfl
  | succ k ih =>
    have e : 2 * (k + 1) = 2 * k + 1 + 1 := by omega
    rw [e, pd_succ, pd_succ, pw_succ, ih]; omega
theorem dig_lm {f : Nat → Int} {n : Nat} (h : Lm f n) : Dg (dig f) (2 * n) := by
  intro j hj
  have := h (j / 2) (by omega)
  unfold dig
  split <;> omega
theorem dig_val (f : Nat → Int) (n : Nat) : vd (dig f) (2 * n) = vf f n := by
  induction n with
  | zero => rfl
  | succ k ih =>
    have e : 2 * (k + 1) = 2 * k + 1 + 1 := by omega
    have e2 : (2 * k + 1) / 2 = k := by omega
    have e3 : (2 * k + 1) % 2 = 1 := by omega
    have e4 : 2 * k / 2 = k := by omega
    have e5 : 2 * k % 2 = 0 := by omega
    have a1 : dig f (2 * k) = f k % 4294967296 := by simp [dig]
    have a2 : dig f (2 * k + 1) = f k / 4294967296 := by simp [dig, e2, e3]
    rw [e, vd_succ, vd_succ, ih, vf_succ, pd_succ, pd_two, a1, a2]
    have e6 : f k = 4294967296 * (f k / 4294967296) + f k % 4294967296 := by omega
    have e7 : f k * pw k = (4294967296 * (f k / 4294967296) + f k % 4294967296) * pw k := by rw [← e6]
    rw [e7]
    grind

theorem rd_new2 (w : World) (e : TypeId) (x : Int) : Rd .u64 (w.alloc (.cells #[.int .u64 (x % 4294967296), .int .u64 (x / 4294967296)] e)) (some ⟨w.heap.size, 0, none⟩) 2 (two32 x) :=
  Rd.mk (fun j hj => by
    rw [Nat.zero_add, World.cell?_alloc_new]
    rcases (show j = 0 ∨ j = 1 by omega) with rfl | rfl <;> simp [two32])

/-- The limbs of digits. -/
def lim (d : Nat → Int) (n : Nat) : Nat → Int := fun j => ext d n (2 * j) + 4294967296 * ext d n (2 * j + 1)
theorem ext_dg {d : Nat → Int} {n : Nat} (h : Dg d n) (j : Nat) : 0 ≤ ext d n j ∧ ext d n j < 4294967296 := by
  by_cases hj : j < n
  · rw [ext_in _ _ _ hj]; exact h j hj
  · rw [ext_out _ _ _ (by omega)]; omega
theorem lim_lm {d : Nat → Int} {n : Nat} (h : Dg d n) (k : Nat) : Lm (lim d n) k := fun j _ => by
  have a := ext_dg h (2 * j); have b := ext_dg h (2 * j + 1)
  unfold lim; omega
theorem lim_val (d : Nat → Int) (n k : Nat) : vf (lim d n) k = vd (ext d n) (2 * k) := by
  induction k with
  | zero => rfl
  | succ k ih =>
    have e : 2 * (k + 1) = 2 * k + 1 + 1 := by omega
    rw [e, vd_succ, vd_succ, ← ih, vf_succ, pd_succ, pd_two, lim]; grind
theorem vd_ext_list (h : Nat → Int) (m n : Nat) (hn : m ≤ n) : vd (ext h m) n = vd h m := by
  rw [vd_ext hn (fun j h1 _ => ext_out h m j h1)]
  exact vd_congr (fun j hj => ext_in h m j hj)
theorem lim_fm {d : Nat → Int} {n k : Nat} (h : Dg d n) (hf : Fm d n) (h1 : n ≤ 2 * k) (h2 : 2 * k ≤ n + 1) : Fm (lim d n) k := by
  by_cases h0 : n = 0
  · left; omega
  · right
    have hd : d (n - 1) ≠ 0 := by rcases hf with h | h; omega; exact h
    have a := ext_dg h (2 * (k - 1)); have b := ext_dg h (2 * (k - 1) + 1)
    unfold lim
    rcases (show n - 1 = 2 * (k - 1) ∨ n - 1 = 2 * (k - 1) + 1 by omega) with e | e
    · have := ext_in d n (2 * (k - 1)) (by omega)
      rw [← e] at this a ⊢
      omega
    · have := ext_in d n (2 * (k - 1) + 1) (by omega)
      rw [← e] at this b ⊢
      omega
theorem cat_one {f : Nat → Int} {k : Nat} {x : Int} (h : f k = x) : ∀ j, j < k + 1 → cat f k (fun _ => x) j = f j := by
  intro j hj
  by_cases h1 : j < k
  · exact cat_in h1
  · obtain rfl : j = k := by omega
    rw [cat_out (Nat.le_refl _), h]

end Go.Proofs.YtclopblgdiahiaaDoor
namespace Go.Proofs.YtclopblgdiahiaaDoor
open Go.RowKit

theorem dcmp_step {f g : Nat → Int} {n k : Nat} (hf : Dg f n) (hg : Dg g n) (hk : k < n) (he : ∀ j, k < j → j < n → f j = g j) (hl : f k < g k) : vd f n < vd g n := by
  obtain ⟨d, rfl⟩ := Nat.exists_eq_add_of_le (show k + 1 ≤ n by omega)
  have e : vd (sh f (k + 1)) d = vd (sh g (k + 1)) d := vd_congr (fun j hj => he _ (by omega) (by omega))
  have a := vd_lt (hf.mono (m := k) (by omega)); have b := vd_nonneg (hg.mono (m := k) (by omega))
  have hp : (f k + 1) * pd k ≤ g k * pd k := Int.mul_le_mul_of_nonneg_right (by omega) (Int.le_of_lt (pd_pos k))
  rw [Int.add_mul, Int.one_mul] at hp
  rw [vd_split f (k + 1) d, vd_split g (k + 1) d, e, vd_succ f k, vd_succ g k]
  omega
theorem vd_cat1 (D : Nat → Int) (k : Nat) (x : Int) : vd (cat D k (fun _ => x)) (k + 1) = vd D k + x * pd k := by
  rw [vd_succ, vd_congr (f := cat D k (fun _ => x)) (g := D) (fun j hj => cat_in hj), cat_out (Nat.le_refl _)]
theorem dg_cat1 {D : Nat → Int} {k : Nat} {x : Int} (h : Dg D k) (hx : 0 ≤ x ∧ x < 4294967296) : Dg (cat D k (fun _ => x)) (k + 1) := fun j hj => by
  by_cases h1 : j < k
  · rw [cat_in h1]; exact h j h1
  · rw [cat_out (by omega)]; exact hx
/-- One digit of a sum. -/
theorem dadd_limb {V x c p : Int} : V + ((x + c) % 4294967296) * p + ((x + c) / 4294967296) * (4294967296 * p) = V + x * p + c * p := by
  have e : x + c = 4294967296 * ((x + c) / 4294967296) + (x + c) % 4294967296 := by omega
  grind
theorem dcarry_step {D F G : Nat → Int} {k : Nat} {cc x y : Int} (HV : vd D k + cc * pd k = vd F k + vd G k) (hx : F k = x) (hy : G k = y) :
    vd (cat D k (fun _ => (cc + x + y) % 4294967296)) (k + 1) + ((cc + x + y) / 4294967296) * pd (k + 1) = vd F (k + 1) + vd G (k + 1) := by
  rw [vd_cat1, vd_succ, vd_succ, pd_succ, hx, hy]
  have := dadd_limb (V := vd D k) (x := x + y) (c := cc) (p := pd k)
  have e : x + y + cc = cc + x + y := by omega
  rw [e] at this
  rw [this]
  grind
theorem dborrow_step {D F G : Nat → Int} {k : Nat} {cc x y v c' : Int} (HV : vd D k - cc * pd k = vd F k - vd G k) (hx : F k = x) (hy : G k = y) (hv : v = x - (cc + y) + 4294967296 * c') :
    vd (cat D k (fun _ => v)) (k + 1) - c' * pd (k + 1) = vd F (k + 1) - vd G (k + 1) := by
  rw [vd_cat1, vd_succ, vd_succ, pd_succ, hx, hy, hv]
  grind

end Go.Proofs.YtclopblgdiahiaaDoor
namespace Go.Proofs.YtclopblgdiahiaaDoor
open Go.RowKit

end Go.Proofs.YtclopblgdiahiaaDoor
namespace Go.Proofs.YtclopblgdiahiaaDoor
open Go.RowKit

/-- A number that the reference answers: it can be read; in form. -/
structure Ans (C : Nat) (w w' : World) (ao : Option Addr) (n : Nat) (f : Nat → Int) : Prop where
  bel : Below w.heap.size w w'
  rd : Rd .u64 w' ao n f
  le : n ≤ C
  lm : Lm f n
  fm : Fm f n

theorem and_fm {f h : Nat → Int} {n m : Nat} (e : (fmB f n && fmB h m) = true) : Fm f n ∧ Fm h m := by
  simp only [Bool.and_eq_true] at e
  exact ⟨fm_of e.1, fm_of e.2⟩
theorem nand_fm {f h : Nat → Int} {n m : Nat} (e : (fmB f n && fmB h m) = false) : ¬ (Fm f n ∧ Fm h m) := fun ⟨a, b⟩ => by
  rw [(fmB_iff f n).2 a, (fmB_iff h m).2 b] at e
  cases e

end Go.Proofs.YtclopblgdiahiaaDoor
namespace Go.Proofs.YtclopblgdiahiaaDoor
open Go.RowKit

theorem pow_z {z : Int} (z0 : 0 ≤ z) : (2 : Int) ^ (z % 64).toNat * pw (z / 64).toNat = 2 ^ z.toNat := by
  rw [pw_pow, ← Int.pow_add]; congr 1; omega
theorem pow_zd {z : Int} (z0 : 0 ≤ z) : (2 : Int) ^ (z % 32).toNat * pd (z / 32).toNat = 2 ^ z.toNat := by
  rw [pd_pow, ← Int.pow_add]; congr 1; omega

set_option maxHeartbeats 800000 in
theorem Shl_c (ao : Option Addr) (n ca : Nat) (z : Int) (f : Nat → Int) (w : World) (hn : n ≤ 1048576) (hr : Rd .u64 w ao n f) (hf : Lm f n) :
    Calls Tryd.prog 15 #[.slice ao n ca, .int .i64 z] w fun e w' => ∃ ao' k cap' f' er, e = .returned (.tuple #[.slice ao' k cap', .int .i64 er]) ∧ Res (n + 1025) w w' ao' k cap' f' ∧
      ((z < 0 ∨ 65536 < z) ∧ er = 1 ∧ k = 0 ∨ 0 ≤ z ∧ z ≤ 65536 ∧ ¬ Fm f n ∧ er = 3 ∧ k = 0 ∨ 0 ≤ z ∧ z ≤ 65536 ∧ Fm f n ∧ er = 0 ∧ vf f' k = vf f n * 2 ^ z.toNat) := by
  have HF := hid hf
  clear hf
  by_cases h1 : z < 0
  · go_enter Tryd.func15, Tryd.ntmps15
    go_wp2
    go_ret2
    exact ⟨_, _, _, f, _, rfl, Res.nil f (Below.refl _ _), .inl ⟨.inl h1, rfl, rfl⟩⟩
  · by_cases h2 : 65536 < z
    · go_enter Tryd.func15, Tryd.ntmps15
      go_wp2
      go_ret2
      exact ⟨_, _, _, f, _, rfl, Res.nil f (Below.refl _ _), .inl (by first | exact ⟨.inr h2, rfl, rfl⟩ | exact ⟨rfl, rfl⟩)⟩
    · cases hfa : fmB f n
      · have c1 := fun w' hr' => form_c ao n ca f w' (by omega) hr'
        rw [hfa] at c1
        have HN := hid (nfm_of hfa)
        have C1 := hid c1
        clear c1 hfa
        go_enter Tryd.func15, Tryd.ntmps15
        go_wp2_with (go_at_call 16; refine (C1.out _ hr).mono ?_; rintro e w' ⟨rfl, rfl⟩)
        go_ret2
        exact ⟨_, _, _, f, _, rfl, Res.nil f (Below.refl _ _), .inr (.inl ⟨by omega, by omega, HN.out, rfl, rfl⟩)⟩
      · have c1 := fun w' hr' => form_c ao n ca f w' (by omega) hr'
        rw [hfa] at c1
        have FA := hid (fm_of hfa)
        have C1 := hid c1
        clear c1 hfa
        go_enter Tryd.func15, Tryd.ntmps15
        go_wp2_with fail
        refine (C1.out _ hr).mono ?_
        rintro e w' ⟨rfl, rfl⟩
        go_wp2_with fail
        refine (shl_c ao n ca (z / 64).toNat z (z % 64) f _ (by omega) (by omega) (by omega) (by omega) (by omega) hr HF.out).mono ?_
        rintro e w' ⟨ao', k, cap', f', rfl, hres, hv⟩
        have HV := hid hv
        clear hv
        go_wp2
        go_ret2
        exact ⟨_, _, _, f', _, rfl, hres.mono (by omega), .inr (.inr ⟨by omega, by omega, FA.out, rfl, by rw [HV.out, Int.mul_assoc, pow_z (by omega)]⟩)⟩

end Go.Proofs.YtclopblgdiahiaaDoor
namespace Go.Proofs.YtclopblgdiahiaaDoor
open Go.RowKit

set_option maxHeartbeats 1000000 in
theorem trimByte_c (g o L cap k0 : Nat) (t : Nat → Int) (w : World) (hr : Rd .u8 w (some ⟨g, o, none⟩) L t) (hL : L ≤ cap) (hk0 : k0 < L) (hz : ∀ j, j < k0 → t j = 48) (hnz : t k0 ≠ 48) :
    Calls Tryd.prog 52 #[.slice (some ⟨g, o, none⟩) L cap, .int .u8 48] w fun e w' => e = .returned (.slice (some ⟨g, o + k0, none⟩) (L - k0) (cap - k0)) ∧ w' = w := by
  have HZ := hid hz
  clear hz
  go_enter Tryd.func52, Tryd.ntmps52
  go_wp2
  go_loop [0] (fun v => ∃ k : Nat, k ≤ k0 ∧ v = .slice (some ⟨g, o + k, none⟩) (L - k) (cap - k)) (fun v => match v with | .slice _ n _ => n | _ => 0)
  case atStart => exact ⟨0, by omega, rfl⟩
  case round =>
    obtain ⟨k, hk, rfl⟩ := hrel
    obtain ⟨x, hx⟩ : ∃ x, t k = x := ⟨_, rfl⟩
    have hcell : w.cell? ⟨g, o + k, none⟩ = some (.int .u8 x) := by rw [← hx]; exact hr.cell (by omega)
    have hpos : (0 : Int) < ((L - k : Nat) : Int) := by omega
    by_cases hkk : k < k0
    · have hx48 : x = 48 := by rw [← hx]; exact HZ.out k hkk
      subst hx48
      clear hx hr
      have hne : ¬ (1 = cap - k) := by omega
      have hne2 : ¬ (cap - k = 1) := by omega
      have hone : (1 : Int) ≤ ((L - k : Nat) : Int) := by omega
      go_wp2
      go_round
      case rel => exact ⟨k + 1, by omega, by simp only [Value.slice.injEq, Option.some.injEq, Addr.mk.injEq]; exact ⟨⟨trivial, by omega, trivial⟩, by omega, by omega⟩⟩
      case measure => simp; omega
    · obtain rfl : k = k0 := by omega
      have hx1 : (x == 48) = false := by rw [← hx]; simp [hnz]
      have hne0 : (((L - k : Nat) : Int) == 0) = false := by simp; omega
      clear hx hr hnz
      go_wp2
      go_ret
      exact ⟨rfl, rfl⟩

set_option maxRecDepth 100000 in
set_option maxHeartbeats 1000000 in
theorem trimLeft_c (g o L cap k0 : Nat) (t : Nat → Int) (w : World) (hr : Rd .u8 w (some ⟨g, o, none⟩) L t) (hL : L ≤ cap) (hk0 : k0 < L) (hz : ∀ j, j < k0 → t j = 48) (hnz : t k0 ≠ 48) :
    Calls Tryd.prog 38 #[.slice (some ⟨g, o, none⟩) L cap, .string ⟨#[48]⟩] w fun e w' => e = .returned (.slice (some ⟨g, o + k0, none⟩) (L - k0) (cap - k0)) ∧ w' = w := by
  have C := hid (trimByte_c g o L cap k0 t w hr hL hk0 hz hnz)
  have h0 : ((L : Int) == 0) = false := by simp; omega
  clear hr hz hnz
  go_enter Tryd.func38, Tryd.ntmps38
  go_wp2_with fail
  refine C.out.mono ?_
  rintro e w1 ⟨rfl, rfl⟩
  go_wp2
  go_ret
  exact ⟨rfl, rfl⟩

theorem lev_ge (n : Nat) (hn : n ≤ 18446744073709551616) : n ≤ 2 ^ lev n := by
  unfold lev
  by_cases h : n ≤ 1
  · rw [if_pos h]; simpa using h
  · rw [if_neg h]
    have := (bitLen_bounds _ (n - 1) rfl (by omega) (by omega)).2.2
    omega
theorem lev_le (n k : Nat) (hk : k ≤ 64) (h : n ≤ 2 ^ k) : lev n ≤ k := by
  unfold lev
  split
  · omega
  · exact Lib.bitLen_le (n - 1) k hk (by omega)
theorem dgi_top {V : Nat} (hV : 0 < V) : dgi V (Lib.nDigits V - 1) ≠ 48 := by
  have h1 : ∀ (k V : Nat), 0 < V → Lib.nDigits V = k + 1 → V / 10 ^ k % 10 ≠ 0 := by
    intro k
    induction k with
    | zero =>
      intro V hV h
      by_cases hu : V < 10
      · simp; omega
      · rw [Lib.nDigits_big hu] at h; have := Lib.nDigits_pos (V / 10); omega
    | succ k ih =>
      intro V hV h
      by_cases hu : V < 10
      · rw [Lib.nDigits_small hu] at h; omega
      · rw [Lib.nDigits_big hu] at h
        have := ih (V / 10) (by omega) (by omega)
        rw [Nat.div_div_eq_div_mul, ← Nat.pow_succ'] at this
        exact this
  have hp := Lib.nDigits_pos V
  have := h1 (Lib.nDigits V - 1) V hV (by omega)
  unfold dgi
  omega
/-- A number of n limbs has room in so many pieces. -/
theorem room_pieces {n p c : Nat} {V : Int} (hV : V < pw n) (hp : 64 * n ≤ 63 * p) (hc : p ≤ 2 ^ c) : V < ((10 ^ (19 * 2 ^ c) : Nat) : Int) := by
  have h1 : pw n = ((2 ^ (64 * n) : Nat) : Int) := by
    clear hV hp
    induction n with
    | zero => rfl
    | succ n ih => rw [pw_succ, ih, Nat.mul_add, Nat.pow_add]; simp; omega
  have h2 : 2 ^ (64 * n) ≤ 2 ^ (63 * p) := Nat.pow_le_pow_right (by omega) hp
  have h3 : 2 ^ (63 * p) ≤ 10 ^ (19 * p) := by
    rw [Nat.pow_mul, Nat.pow_mul]; exact Nat.pow_le_pow_left (by decide) p
  have h4 : 10 ^ (19 * p) ≤ 10 ^ (19 * 2 ^ c) := Nat.pow_le_pow_right (by omega) (Nat.mul_le_mul_left 19 hc)
  omega
theorem cv_text {P : Program} (w : World) (tB tS tE : TypeId) (g o cap : Nat) (t : Nat → Int) (V : Nat) (h1 : P.underlying tB = some (.slice tE)) (h2 : P.underlying tE = some (.int .u8)) (h3 : P.underlying tS = some .string) (hr : Rd .u8 w (some ⟨g, o, none⟩) (Lib.nDigits V) t) (ht : ∀ j, j < Lib.nDigits V → t j = dgi V (Lib.nDigits V - 1 - j)) :
    (convert tB tS (.slice (some ⟨g, o, none⟩) (Lib.nDigits V) cap)).run P w = .ok (.string ⟨(Lib.decDigits V).toArray⟩) w := by
  have h := run_convert_bytes_back (P := P) w tB tS tE ⟨g, o, none⟩ cap (Lib.decDigits V) h1 h2 h3 (fun j hj => by
    rw [Lib.decDigits_length] at hj
    have e := byt_dec V j hj
    have hc := hr.cell hj
    rw [ht j hj, ← e] at hc
    rw [Lib.add_plain, hc]
    unfold byt
    rw [List.getD_eq_getElem?_getD, List.getElem?_eq_getElem (by rw [Lib.decDigits_length]; exact hj)]
    rfl)
  rw [Lib.decDigits_length] at h
  exact h

set_option maxRecDepth 100000 in
set_option maxHeartbeats 2000000 in
/-- digits: the decimal digits. -/
theorem digits_c (ao : Option Addr) (n ca c : Nat) (f : Nat → Int) (V : Nat) (w : World) (hn : n ≤ 4096) (hr : Rd .u64 w ao n f) (hf : Lm f n) (ff : Fm f n) (hV : vf f n = V) (htab : Tab w) (hc : c = lev ((64 * n + 62) / 63)) (hca : n ≤ ca) (hcam : ca ≤ 9223372036854775807) (hdiv : ∀ j, j < c → ∀ X, 0 ≤ X → X ≤ (V : Int) → DivOk X (tens j)) :
    Calls Tryd.prog 20 #[.slice ao n ca] w fun e w' => e = .returned (.string ⟨(Lib.decDigits V).toArray⟩) ∧ Below w.heap.size w w' := by
  by_cases h0 : n = 0
  · subst h0
    have hV0 : V = 0 := by simp [vf] at hV; omega
    have E := hid (show Lib.decDigits V = [48] by rw [hV0, Lib.decDigits_one (by omega)]; rfl)
    clear hr hf ff hV hdiv
    go_enter Tryd.func20, Tryd.ntmps20
    go_wp2
    go_ret
    exact ⟨by rw [E.out]; rfl, Below.refl _ _⟩
  · have hVp : 0 < V := by
      have := vf_form_ge hf ff (by omega); have := pw_pos (n - 1); omega
    obtain ⟨p, hp⟩ : ∃ p, p = (64 * n + 62) / 63 := ⟨_, rfl⟩
    have hp1 : 1 ≤ p := by omega
    have hp2 : p ≤ 8192 := by omega
    rw [← hp] at hc
    have hc13 : c ≤ 13 := by rw [hc]; exact lev_le p 13 (by omega) (by omega)
    have hpc : p ≤ 2 ^ c := by rw [hc]; exact lev_ge p (by omega)
    obtain ⟨K, hK⟩ : ∃ K, K = 19 * 2 ^ c := ⟨_, rfl⟩
    have h2c : 2 ^ c ≤ 8192 := Nat.pow_le_pow_right (n := 2) (by omega) hc13
    have h2c1 : 1 ≤ 2 ^ c := Nat.pow_pos (by omega)
    have hKb : K ≤ 155648 := by omega
    have hK1 : 19 ≤ K := by omega
    have hVK : V < 10 ^ K := by
      have := room_pieces (n := n) (p := p) (c := c) (V := (V : Int)) (by rw [← hV]; exact vf_lt hf) (by omega) hpc
      rw [← hK] at this
      exact_mod_cast this
    have hnd := nDigits_le hVK (by omega)
    have hndp := Lib.nDigits_pos V
    have hsh : IntKind.i64.wrap (19 * 2 ^ c) = (K : Int) := by
      have : (19 * 2 ^ c : Int) = K := by rw [hK]; simp
      rw [this, IntKind.wrap_i64]; omega
    have C1 := hid (fun (z : Int) hz W => levels_c p z W hz (by omega))
    have C2 := hid (fun W => bases_c c W (by omega))
    have HNum := hid (show Nu w (.slice ao n ca) n (V : Int) from ⟨ao, n, ca, f, rfl, hr, hf, ff, Nat.le_refl _, hV, hca, hcam⟩)
    have HDv := hid hdiv; have HP := hid hp; have HC := hid hc; have HKK := hid hK; have HVK := hid hVK; have HT := hid htab
    have hhi : ((n : Int) * 64 + 63 - 1) / 63 = (p : Int) := by rw [hp]; omega
    clear hdiv hr hf ff hV hp hc hK hVK htab hpc h2c h2c1
    have h0i : ((n : Int) == 0) = false := by simp; omega
    go_enter Tryd.func20, Tryd.ntmps20
    go_wp2_with fail
    refine (C1.out _ rfl _).mono ?_
    rintro e w1 ⟨rfl, rfl⟩
    rw [← HC.out]
    clear C1
    go_wp2_with (at_make; refine wpList_make_blk .u8 w1 rfl (.tmp 16) (.tmp 16) 51 rfl 5 1 Tryd.underlying51 Tryd.infoU8 .i64 .i64 K K K rfl rfl rfl rfl (by omega) (by unfold maxLen; omega) ?_; intro w2 hb2 hbel2)
    have HBk2 := hid hb2
    have HNum2 := hid (HNum.out.below hbel2)
    have HT2 := hid (HT.out.below hbel2 HT.out.lt)
    clear hb2
    refine (C2.out _).mono ?_
    rintro e w3 ⟨bo, cap, rfl, hbel3, hcap, hcapm, _, hbas⟩
    have HBk3 := hid (HBk2.out.below hbel3 HBk2.out.lt)
    have HNum3 := hid (HNum2.out.below hbel3)
    have HT3 := hid (HT2.out.below hbel3 HT2.out.lt)
    have HBas := hid hbas
    have hgl : 4 < w1.heap.size := HT.out.lt
    clear C2 HBk2 HNum2 HT2 hbas
    go_wp2_with fail
    refine (putDigits_c V c HDv.out w1.heap.size 0 K K K (fun _ => 0) ao n ca n V bo cap w3 HBk3.out (by omega) (by omega) HKK.out (Nat.le_refl _) (by omega) HNum3.out (by omega) HVK.out (Int.le_refl _) HBas.out hcap hcapm (by omega) HT3.out hgl).mono ?_
    rintro e w4 ⟨rfl, hon4, t, hb4, he4, hd4⟩
    have hd5 : ∀ j, j < K → t j = dgi V (K - 1 - j) := fun j hj => by have := hd4 j hj; rwa [Nat.zero_add] at this
    have HBk4 := hid hb4; have HD := hid hd5
    have hbel4 : Below w1.heap.size w1 w4 := below_only (hbel2.trans (hbel3.mono hbel2.size)) hon4 (Nat.le_refl _) (Nat.le_trans hbel2.size hbel3.size)
    clear he4 hd4 hd5 hb4 HBk3 HNum3 HT3 HBas hon4 hbel3 hbel2 HNum HT
    obtain ⟨k0, hk0⟩ : ∃ k0, k0 = K - Lib.nDigits V := ⟨_, rfl⟩
    have hk1 : K - k0 = Lib.nDigits V := by omega
    have hk2 : k0 < K := by omega
    have hrd := HBk4.out.rd0 (Nat.le_refl _)
    have c5 := (trimLeft_c w1.heap.size 0 K K k0 t w4 hrd (Nat.le_refl _) hk2 (fun j hj => by rw [HD.out j (by omega)]; exact dgi_front (by omega)) (by rw [HD.out k0 hk2, show K - 1 - k0 = Lib.nDigits V - 1 by omega]; exact dgi_top hVp))
    rw [Nat.zero_add] at c5
    have C5 := hid c5
    clear c5
    have hcv := cv_text (P := Tryd.prog) w4 51 9 5 w1.heap.size (0 + k0) (K - k0) (sh t k0) V Tryd.underlying51 Tryd.underlying5 Tryd.underlying9 (by have := hrd.drop (i := k0) (m := Lib.nDigits V) (by omega); exact this) (fun j hj => by rw [sh_at, HD.out _ (by omega)]; congr 1; omega)
    rw [← hk1, Nat.zero_add] at hcv
    clear hrd hk0 hk1
    go_wp2_with fail
    refine C5.out.mono ?_
    rintro e w5 ⟨rfl, rfl⟩
    go_wp2
    go_ret
    exact ⟨rfl, hbel4⟩
end Go.Proofs.YtclopblgdiahiaaDoor
namespace Go.Proofs.YtclopblgdiahiaaDoor
open Go.RowKit

set_option maxHeartbeats 1000000 in
theorem Text_u (ao : Option Addr) (n ca c : Nat) (f : Nat → Int) (V : Nat) (w : World) (hn : n ≤ 4096) (hr : Rd .u64 w ao n f) (hf : Lm f n) (ff : Fm f n) (hV : vf f n = V) (htab : Tab w) (hc : c = lev ((64 * n + 62) / 63)) (hca : n ≤ ca) (hcam : ca ≤ 9223372036854775807) (hdiv : ∀ j, j < c → ∀ X, 0 ≤ X → X ≤ (V : Int) → DivOk X (tens j)) :
    Calls Tryd.prog 12 #[.slice ao n ca] w fun e w' => e = .returned (.tuple #[.string ⟨(Lib.decDigits V).toArray⟩, .int .i64 0]) ∧ Below w.heap.size w w' := by
  have c1 := form_c ao n ca f w (by omega) hr
  rw [(fmB_iff f n).2 ff] at c1
  have C1 := hid c1
  have C2 := hid (digits_c ao n ca c f V w hn hr hf ff hV htab hc hca hcam hdiv)
  clear c1 hr hf ff hV htab hc hdiv
  go_enter Tryd.func12, Tryd.ntmps12
  go_wp2_with fail
  refine C1.out.mono ?_
  rintro e w1 ⟨rfl, rfl⟩
  go_wp2_with fail
  refine C2.out.mono ?_
  rintro e w1 ⟨rfl, hb⟩
  go_wp2
  go_ret2
  exact ⟨rfl, hb⟩

theorem Text_c (ao : Option Addr) (n ca c : Nat) (f : Nat → Int) (V : Nat) (w : World) (hn : n ≤ 4096) (hr : Rd .u64 w ao n f) (_ : Tg w ao) (hf : Lm f n) (ff : Fm f n) (hV : vf f n = V) (htab : Tab w) (hc : c = lev ((64 * n + 62) / 63)) (hca : n ≤ ca) (hcam : ca ≤ 9223372036854775807) (hdiv : ∀ j, j < c → ∀ X, 0 ≤ X → X ≤ (V : Int) → DivOk X (tens j)) :
    Calls Tryd.prog 12 #[.slice ao n ca] w fun e w' => e = .returned (.tuple #[.string ⟨(Lib.decDigits V).toArray⟩, .int .i64 0]) ∧ Below w.heap.size w w' := Text_u ao n ca c f V w hn hr hf ff hV htab hc hca hcam hdiv

set_option maxHeartbeats 1000000 in
theorem DivMod_of (ao bo : Option Addr) (n m ca cb : Nat) (f h : Nat → Int) (w : World) (hn : n ≤ 8796093022208) (hm : m ≤ 8796093022208) (hr : Rd .u64 w ao n f) (hs : Rd .u64 w bo m h) (hf : Lm f n) (hh : Lm h m) (ff : Fm f n) (fh : Fm h m) (hm0 : 0 < m) (hd : DivOk (vf f n) (vf h m)) :
    Calls Tryd.prog 10 #[.slice ao n ca, .slice bo m cb] w fun e w' => ∃ a1 k1 c1 q a2 k2 c2 r, e = .returned (.tuple #[.slice a1 k1 c1, .slice a2 k2 c2, .int .i64 0]) ∧ Res n w w' a1 k1 c1 q ∧ Res (n + 1) w w' a2 k2 c2 r ∧ vf f n = vf q k1 * vf h m + vf r k2 ∧ 0 ≤ vf r k2 ∧ vf r k2 < vf h m := by
  have c1 := form_c ao n ca f w (by omega) hr
  rw [(fmB_iff f n).2 ff] at c1
  have c2 := form_c bo m cb h w (by omega) hs
  rw [(fmB_iff h m).2 fh] at c2
  have C1 := hid c1; have C2 := hid c2
  have C3 := hid (hd ao bo n m ca cb f h w hn hm hr hs hf hh ff fh rfl rfl)
  have hmi : ((m : Int) == 0) = false := by simp; omega
  clear c1 c2 hr hs hf hh ff fh hd
  go_enter Tryd.func10, Tryd.ntmps10
  go_wp2_with fail
  refine C1.out.mono ?_
  rintro e w1 ⟨rfl, rfl⟩
  go_wp2_with fail
  refine C2.out.mono ?_
  rintro e w1 ⟨rfl, rfl⟩
  go_wp2_with fail
  refine C3.out.mono ?_
  rintro e w1 ⟨a1, k1, c1, q, a2, k2, c2, r, rfl, hrest⟩
  have HR := hid hrest
  clear hrest
  go_wp2
  go_ret3
  exact ⟨a1, k1, c1, q, a2, k2, c2, r, rfl, HR.out⟩

set_option maxHeartbeats 1000000 in
/-- gcd where the first number is the lesser and has one limb. -/
theorem gcd_one_sw (bo : Option Addr) (b o n ca cb : Nat) (f : Nat → Int) (x : Nat) (w : World) (hn : n ≤ 8796093022208) (hr : Rd .u64 w bo n f) (hf : Lm f n) (ff : Fm f n) (hx : w.cell? ⟨b, o, none⟩ = some (.int .u64 x)) (x0 : 0 < x) (x1 : x < 18446744073709551616) (hlt : (x : Int) < vf f n) :
    Calls Tryd.prog 19 #[.slice (some ⟨b, o, none⟩) 1 ca, .slice bo n cb] w fun e w' => ∃ ao' k cap' f', e = .returned (.slice ao' k cap') ∧ Res 1 w w' ao' k cap' f' ∧ vf f' k = (Nat.gcd x (vf f n % x).toNat : Nat) := by
  have hs : Rd .u64 w (some ⟨b, o, none⟩) 1 (fun _ => (x : Int)) := Rd.mk (fun j hj => by obtain rfl : j = 0 := by omega
                                                                                          exact hx)
  have cc := cmp_c (some ⟨b, o, none⟩) bo 1 n ca cb (fun _ => (x : Int)) f w (by omega) (by omega) hs hr (lm_const (by omega) (by omega) 1) hf (.inr (by simp; omega)) ff
  have hv1 : vf (fun _ => (x : Int)) 1 = x := by simp [vf, pw]
  rw [hv1] at cc
  obtain ⟨R, hR⟩ : ∃ R : Nat, (vf f n % x) = R := ⟨(vf f n % x).toNat, by have := Int.emod_nonneg (vf f n) (show (x : Int) ≠ 0 by omega); omega⟩
  have hR1 : (R : Int) < x := by rw [← hR]; exact Int.emod_lt_of_pos _ (by omega)
  have cm := fun w' hr' => modWord_c bo n cb f x w' (by omega) hr' hf (by omega) (by omega)
  rw [hR] at cm
  have cg := fun w' => gcdWord_c x R w' (by omega) (by omega)
  have hgl : Nat.gcd x R < 18446744073709551616 := Nat.lt_of_le_of_lt (Nat.gcd_le_left _ x0) x1
  have hfin : Nat.gcd x (vf f n % x).toNat = Nat.gcd x R := by rw [hR]; simp
  generalize Nat.gcd x R = G at *
  have CC := hid cc; have CM := hid cm; have CG := hid cg; have HFin := hid hfin; have HRd := hid hr
  have HLt := hid hlt
  clear cc cm cg hfin hr hs hv1 hR hlt hf ff
  go_enter Tryd.func19, Tryd.ntmps19
  go_wp2_with fail
  refine CC.out.mono ?_
  rintro e w1 ⟨⟨q, rfl⟩, c, rfl, ho⟩
  have hc : c = -1 := by have := HLt.out; unfold Ord at ho; omega
  subst hc
  clear ho
  go_wp2
  go_region_with (first | (go_at_call 34; refine (CM.out _ (by exact HRd.out)).mono ?_; rintro e w' ⟨rfl, q1, rfl⟩) | (go_at_call 33; refine (CG.out _).mono ?_; rintro e w' ⟨rfl, q2, rfl⟩) | (go_at_call 30; refine (fromWord_c G _ (by omega) (by omega)).mono ?_; rintro e w' ⟨ao', m', cap', f', rfl, hres, hv'⟩))
  all_goals
    go_wp2
    go_ret
    exact ⟨ao', m', cap', f', rfl, hres.ahead (by repeat (first | exact Below.refl _ _ | refine below_drewN ?_ _ | refine Below.drew ?_)), by rw [HFin.out]; exact hv'⟩

/-- Gcd(12, 18), as the statements' own look asks it. -/
theorem Gcd_sw (bo : Option Addr) (b o n ca cb : Nat) (f : Nat → Int) (x : Nat) (w : World) (hn : n ≤ 8796093022208) (hr : Rd .u64 w bo n f) (hf : Lm f n) (ff : Fm f n) (hx : w.cell? ⟨b, o, none⟩ = some (.int .u64 x)) (x0 : 0 < x) (x1 : x < 18446744073709551616) (hlt : (x : Int) < vf f n) :
    Calls Tryd.prog 11 #[.slice (some ⟨b, o, none⟩) 1 ca, .slice bo n cb] w fun e w' => ∃ ao' k cap' f', e = .returned (.tuple #[.slice ao' k cap', .int .i64 0]) ∧ Res 1 w w' ao' k cap' f' ∧ vf f' k = (Nat.gcd x (vf f n % x).toNat : Nat) := by
  have hs : Rd .u64 w (some ⟨b, o, none⟩) 1 (fun _ => (x : Int)) := Rd.mk (fun j hj => by obtain rfl : j = 0 := by omega
                                                                                          exact hx)
  have c1 := form_c (some ⟨b, o, none⟩) 1 ca (fun _ => (x : Int)) w (by omega) hs
  rw [(fmB_iff _ 1).2 (.inr (by simp; omega))] at c1
  have c2 := form_c bo n cb f w (by omega) hr
  rw [(fmB_iff f n).2 ff] at c2
  have C1 := hid c1; have C2 := hid c2
  have C3 := hid (gcd_one_sw bo b o n ca cb f x w hn hr hf ff hx x0 x1 hlt)
  clear c1 c2 hr hs hf ff hx hlt
  go_enter Tryd.func11, Tryd.ntmps11
  go_wp2_with fail
  refine C1.out.mono ?_
  rintro e w1 ⟨rfl, rfl⟩
  go_wp2_with fail
  refine C2.out.mono ?_
  rintro e w1 ⟨rfl, rfl⟩
  go_wp2_with fail
  refine C3.out.mono ?_
  rintro e w1 ⟨ao', k, cap', f', rfl, hrest⟩
  have HR := hid hrest
  clear hrest
  go_wp2
  go_ret2
  exact ⟨ao', k, cap', f', rfl, HR.out⟩

/-- Same of two lists of one number. -/
theorem same_true (ao bo : Option Addr) (n m ca cb : Nat) (f g : Nat → Int) (w : World) (hm : n ≤ 140737488355328) (hm' : m ≤ 140737488355328) (hr : Rd .u64 w ao n f) (hs : Rd .u64 w bo m g) (hf : Lm f n) (hg : Lm g m) (ff : Fm f n) (fg : Fm g m) (hv : vf f n = vf g m) :
    Calls Tryd.prog 8 #[.slice ao n ca, .slice bo m cb] w fun e w' => e = .returned (.bool true) ∧ ∃ q, w' = w.drewN q := by
  refine (same_c ao bo n m ca cb f g w hm hm' hr hs).mono ?_
  rintro e w' ⟨hq, b, rfl, hb⟩
  have : b = true := hb.2 (vf_inj hf hg ff fg hv)
  subst this
  exact ⟨rfl, hq⟩
end Go.Proofs.YtclopblgdiahiaaDoor
namespace Go.Proofs.YtclopblgdiahiaaDoor
open Go.RowKit

/-- Two limbs. -/
def lim2 (x y : Int) : Nat → Int := fun j => if j = 0 then x else y
theorem lm_lim2 {x y : Int} (hx : 0 ≤ x ∧ x < 18446744073709551616) (hy : 0 ≤ y ∧ y < 18446744073709551616) (n : Nat) : Lm (lim2 x y) n := fun j _ => by
  unfold lim2; split
  · exact hx
  · exact hy
theorem vf_lim2 (x y : Int) : vf (lim2 x y) 2 = x + y * 18446744073709551616 := by simp [vf, pw, lim2]
theorem vf_one (x : Int) : vf (fun _ => x) 1 = x := by simp [vf, pw]
theorem rd_newP (w : World) (e : TypeId) (x y : Int) : Rd .u64 (w.alloc (.cells #[.int .u64 x, .int .u64 y] e)) (some ⟨w.heap.size, 0, none⟩) 2 (lim2 x y) :=
  Rd.mk (fun j hj => by
    rw [Nat.zero_add, World.cell?_alloc_new]
    rcases (show j = 0 ∨ j = 1 by omega) with rfl | rfl <;> simp [lim2])
theorem tg_new (w : World) (c : Array Value) : Tg (w.alloc (.cells c 26)) (some ⟨w.heap.size, 0, none⟩) := fun a ha => by
  cases ha; exact ⟨_, _, heap_alloc_new w _⟩
theorem Rd.alloc {k w ao n f} (h : Rd k w ao n f) (o : Obj) : Rd k (w.alloc o) ao n f := h.below ((Below.refl _ _).alloc (Nat.le_refl _) o) (Nat.le_refl _)
theorem below_alloc {w0 w : World} (h : Below w0.heap.size w0 w) (o : Obj) : Below w0.heap.size w0 (w.alloc o) := h.alloc h.size o
theorem fm1 {x : Int} (h : x ≠ 0) : Fm (fun _ => x) 1 := .inr h
theorem tens_zero : tens 0 = 10000000000000000000 := by simp [tens]
theorem tens_one : tens 1 = 100000000000000000000000000000000000000 := by simp [tens]
theorem text_64 : Lib.decDigits 18446744073709551616 = [49, 56, 52, 52, 54, 55, 52, 52, 48, 55, 51, 55, 48, 57, 53, 53, 49, 54, 49, 54] := by
  have hn : Lib.nDigits 18446744073709551616 = 20 := Lib.nDigits_unique 19 _ (by decide) (by decide)
  rw [Lib.decDigits_eq, hn]
  decide +kernel

/-- Text of 2^64. -/
theorem text_look (w : World) (htab : Tab w) : Calls Tryd.prog 12 #[.slice (some ⟨w.heap.size, 0, none⟩) 2 2] (w.alloc (.cells #[.int .u64 0, .int .u64 1] 26)) fun e w' => e = .returned (.tuple #[.string ⟨#[49, 56, 52, 52, 54, 55, 52, 52, 48, 55, 51, 55, 48, 57, 53, 53, 49, 54, 49, 54]⟩, .int .i64 0]) ∧ Below w.heap.size w w' := by
  have hl : lev ((64 * 2 + 62) / 63) = 2 := by decide +kernel
  have hbel : Below w.heap.size w (w.alloc (.cells #[.int .u64 0, .int .u64 1] 26)) := (Below.refl _ _).alloc (Nat.le_refl _) _
  refine (Text_c (some ⟨w.heap.size, 0, none⟩) 2 2 2 (lim2 0 1) 18446744073709551616 (w.alloc (.cells #[.int .u64 0, .int .u64 1] 26)) (by omega) (rd_newP w _ 0 1) (tg_new w _) (lm_lim2 (by omega) (by omega) 2) (.inr (by simp [lim2])) (by rw [vf_lim2]; rfl) (htab.below hbel htab.lt) hl.symm (by omega) (by omega) ?_).mono ?_
  · intro j hj X hX hXV
    rcases (show j = 0 ∨ j = 1 by omega) with rfl | rfl
    · rw [tens_zero]; exact divOk_small (by omega) (.inl (by omega))
    · rw [tens_one]; exact divOk_small (by omega) (.inr (by omega))
  · rintro e w' ⟨rfl, hb⟩
    refine ⟨by rw [text_64], hbel.trans (hb.mono ?_)⟩
    simp

/-- A number that was answered and can be read. -/
structure Got (w w' : World) (ao : Option Addr) (n : Nat) (f : Nat → Int) (V : Int) : Prop where
  bel : Below w.heap.size w w'
  rd : Rd .u64 w' ao n f
  lm : Lm f n
  fm : Fm f n
  le : n ≤ 4
  val : vf f n = V
theorem Res.got {C w0 w w' ao n cap f V} (h : Res C w w' ao n cap f) (hb : Below w0.heap.size w0 w) (hC : C ≤ 4) (hv : vf f n = V) : Got w0 w' ao n f V :=
  ⟨hb.trans (h.bel.mono hb.size), h.rd, h.lm, h.fm, by have := h.le; omega, hv⟩
theorem Got.below {w w' w'' ao n f V} (h : Got w w' ao n f V) (hb : Below w'.heap.size w' w'') : Got w w'' ao n f V :=
  ⟨h.bel.trans (hb.mono h.bel.size), h.rd.below hb (Nat.le_refl _), h.lm, h.fm, h.le, h.val⟩
theorem size_alloc1 (w : World) (o : Obj) : (w.alloc o).heap.size = w.heap.size + 1 := by simp

theorem add_look (w : World) : Calls Tryd.prog 9 #[.slice (some ⟨w.heap.size, 0, none⟩) 1 1, .slice (some ⟨w.heap.size + 1, 0, none⟩) 1 1] ((w.alloc (.cells #[.int .u64 18446744073709551615] 26)).alloc (.cells #[.int .u64 1] 26)) fun e w' => ∃ a n c f, e = .returned (.tuple #[.slice a n c, .int .i64 0]) ∧ Got w w' a n f 18446744073709551616 := by
  rw [← size_alloc1 w (.cells #[.int .u64 18446744073709551615] 26)]
  refine (Add_c _ _ 1 1 1 1 (fun _ => 18446744073709551615) (fun _ => 1) _ (by omega) (by omega) ((rd_new1 w _ _).alloc _) (rd_new1 _ _ _) (lm_const (by omega) (by omega) 1) (lm_const (by omega) (by omega) 1)).mono ?_
  rintro e w' ⟨a, n, c, f, er, rfl, hres, hcase⟩
  rcases hcase with ⟨_, _, rfl, hv⟩ | ⟨hn, _⟩
  · exact ⟨a, n, c, f, rfl, hres.got (below_alloc (below_alloc (Below.refl _ _) _) _) (by omega) (by rw [hv, vf_one, vf_one]; rfl)⟩
  · exact absurd ⟨fm1 (by omega), fm1 (by omega)⟩ hn
theorem div_look (w : World) : Calls Tryd.prog 10 #[.slice (some ⟨w.heap.size, 0, none⟩) 2 2, .slice (some ⟨w.heap.size + 1, 0, none⟩) 1 1] ((w.alloc (.cells #[.int .u64 0, .int .u64 1] 26)).alloc (.cells #[.int .u64 3] 26)) fun e w' => ∃ a1 n1 c1 f1 a2 n2 c2 f2, e = .returned (.tuple #[.slice a1 n1 c1, .slice a2 n2 c2, .int .i64 0]) ∧ Got w w' a1 n1 f1 6148914691236517205 ∧ Got w w' a2 n2 f2 1 := by
  rw [← size_alloc1 w (.cells #[.int .u64 0, .int .u64 1] 26)]
  refine (DivMod_of _ _ 2 1 2 1 (lim2 0 1) (fun _ => 3) _ (by omega) (by omega) ((rd_newP w _ _ _).alloc _) (rd_new1 _ _ _) (lm_lim2 (by omega) (by omega) 2) (lm_const (by omega) (by omega) 1) (.inr (by simp [lim2])) (fm1 (by omega)) (by omega) ?_).mono ?_
  · rw [vf_lim2, vf_one]; exact divOk_small (by omega) (.inl (by omega))
  · rintro e w' ⟨a1, k1, c1, q, a2, k2, c2, r, rfl, h1, h2, hv, r0, r1⟩
    rw [vf_lim2, vf_one] at hv
    rw [vf_one] at r1
    have hb := below_alloc (below_alloc (Below.refl w.heap.size w) (.cells #[.int .u64 0, .int .u64 1] 26)) (.cells #[.int .u64 3] 26)
    exact ⟨a1, k1, c1, q, a2, k2, c2, r, rfl, h1.got hb (by omega) (by omega), h2.got hb (by omega) (by omega)⟩
theorem gcd_look (w : World) : Calls Tryd.prog 11 #[.slice (some ⟨w.heap.size, 0, none⟩) 1 1, .slice (some ⟨w.heap.size + 1, 0, none⟩) 1 1] ((w.alloc (.cells #[.int .u64 12] 26)).alloc (.cells #[.int .u64 18] 26)) fun e w' => ∃ a n c f, e = .returned (.tuple #[.slice a n c, .int .i64 0]) ∧ Got w w' a n f 6 := by
  rw [← size_alloc1 w (.cells #[.int .u64 12] 26)]
  refine (Gcd_sw _ w.heap.size 0 1 1 1 (fun _ => 18) 12 _ (by omega) (rd_new1 _ _ _) (lm_const (by omega) (by omega) 1) (fm1 (by omega)) (by have := ((rd_new1 w 26 12).alloc (.cells #[.int .u64 18] 26)).cell (j := 0) (by omega); exact this) (by omega) (by omega) (by rw [vf_one]; decide)).mono ?_
  rintro e w' ⟨a, k, c, f, rfl, hres, hv⟩
  exact ⟨a, k, c, f, rfl, hres.got (below_alloc (below_alloc (Below.refl _ _) _) _) (by omega) (by rw [hv, vf_one]; decide)⟩
theorem sub_look (w : World) : Calls Tryd.prog 13 #[.slice (some ⟨w.heap.size, 0, none⟩) 1 1, .slice (some ⟨w.heap.size + 1, 0, none⟩) 1 1] ((w.alloc (.cells #[.int .u64 1] 26)).alloc (.cells #[.int .u64 2] 26)) fun e w' => ∃ a n c, e = .returned (.tuple #[.slice a n c, .int .i64 1]) ∧ Below w.heap.size w w' := by
  rw [← size_alloc1 w (.cells #[.int .u64 1] 26)]
  refine (Sub_c _ _ 1 1 1 1 (fun _ => 1) (fun _ => 2) _ (by omega) (by omega) ((rd_new1 w _ _).alloc _) (rd_new1 _ _ _) (lm_const (by omega) (by omega) 1) (lm_const (by omega) (by omega) 1)).mono ?_
  rintro e w' ⟨a, n, c, f, er, rfl, hres, hcase⟩
  rw [vf_one, vf_one] at hcase
  rcases hcase with ⟨_, _, hle, _⟩ | ⟨_, _, _, rfl, _⟩ | ⟨hn, _⟩
  · omega
  · have hb := below_alloc (below_alloc (Below.refl w.heap.size w) (.cells #[.int .u64 1] 26)) (.cells #[.int .u64 2] 26)
    exact ⟨a, n, c, rfl, hb.trans (hres.bel.mono hb.size)⟩
  · exact absurd ⟨fm1 (by omega), fm1 (by omega)⟩ hn
theorem same_look1 {w0 w : World} {ao : Option Addr} {n ca : Nat} {f : Nat → Int} {V : Int} (h : Got w0 w ao n f V) (x : Int) (hx : 0 < x ∧ x < 18446744073709551616) (hV : V = x) : Calls Tryd.prog 8 #[.slice ao n ca, .slice (some ⟨w.heap.size, 0, none⟩) 1 1] (w.alloc (.cells #[.int .u64 x] 26)) fun e w' => e = .returned (.bool true) ∧ Below w.heap.size w w' := by
  refine (same_true ao _ n 1 ca 1 f (fun _ => x) _ (by have := h.le; omega) (by omega) (h.rd.alloc _) (rd_new1 _ _ _) h.lm (lm_const (by omega) hx.2 1) h.fm (fm1 (by omega)) (by rw [h.val, vf_one]; exact hV)).mono ?_
  rintro e w' ⟨rfl, q, rfl⟩
  exact ⟨rfl, below_drewN (below_alloc (Below.refl _ _) _) q⟩
theorem same_look2 {w0 w : World} {ao : Option Addr} {n ca : Nat} {f : Nat → Int} (h : Got w0 w ao n f 18446744073709551616) : Calls Tryd.prog 8 #[.slice ao n ca, .slice (some ⟨w.heap.size, 0, none⟩) 2 2] (w.alloc (.cells #[.int .u64 0, .int .u64 1] 26)) fun e w' => e = .returned (.bool true) ∧ Below w.heap.size w w' := by
  refine (same_true ao _ n 2 ca 2 f (lim2 0 1) _ (by have := h.le; omega) (by omega) (h.rd.alloc _) (rd_newP _ _ _ _) h.lm (lm_lim2 (by omega) (by omega) 2) h.fm (.inr (by simp [lim2])) (by rw [h.val, vf_lim2]; rfl)).mono ?_
  rintro e w' ⟨rfl, q, rfl⟩
  exact ⟨rfl, below_drewN (below_alloc (Below.refl _ _) _) q⟩

set_option maxRecDepth 100000 in
set_option maxHeartbeats 4000000 in
theorem awake_c (w : World) (htab : Tab w) : Calls Tryd.prog 4 #[] w fun e w' => e = .returned (.bool true) ∧ Below w.heap.size w w' := by
  have HT := hid htab
  clear htab
  go_enter Tryd.func4, Tryd.ntmps4
  go_wp2_with fail
  refine (add_look w).mono ?_
  rintro e w1 ⟨a1, n1, c1, f1, rfl, g1⟩
  have HT1 := hid (HT.out.below g1.bel HT.out.lt)
  have G1 := hid g1
  clear g1
  go_wp2_with fail
  refine (div_look w1).mono ?_
  rintro e w2 ⟨a2, n2, c2, f2, a3, n3, c3, f3, rfl, g2, g3⟩
  have HT2 := hid (HT1.out.below g2.bel HT1.out.lt)
  have G2 := hid g2; have G3 := hid g3
  clear g2 g3
  go_wp2_with fail
  refine (gcd_look w2).mono ?_
  rintro e w3 ⟨a4, n4, c4, f4, rfl, g4⟩
  have HT3 := hid (HT2.out.below g4.bel HT2.out.lt)
  have G4 := hid g4
  clear g4
  go_wp2_with fail
  refine (text_look w3 HT3.out).mono ?_
  rintro e w4 ⟨rfl, hb4⟩
  go_wp2_with fail
  refine (sub_look w4).mono ?_
  rintro e w5 ⟨a5, n5, c5, rfl, hb5⟩
  have H1 := hid ((((G1.out.below G2.out.bel).below G4.out.bel).below hb4).below hb5)
  have H2 := hid (((G2.out.below G4.out.bel).below hb4).below hb5)
  have H3 := hid (((G3.out.below G4.out.bel).below hb4).below hb5)
  have H4 := hid ((G4.out.below hb4).below hb5)
  clear G1 G2 G3 G4 hb4 hb5 HT HT1 HT2 HT3
  go_wp2_with fail
  refine (same_look2 H1.out).mono ?_
  rintro e w6 ⟨rfl, hb6⟩
  have K2 := hid (H2.out.below hb6); have K3 := hid (H3.out.below hb6); have K4 := hid (H4.out.below hb6)
  have K1 := hid (H1.out.bel.trans (hb6.mono H1.out.bel.size))
  clear H1 H2 H3 H4 hb6
  go_wp2_with fail
  refine (same_look1 K2.out 6148914691236517205 (by omega) rfl).mono ?_
  rintro e w7 ⟨rfl, hb7⟩
  have L3 := hid (K3.out.below hb7); have L4 := hid (K4.out.below hb7)
  have L1 := hid (K1.out.trans (hb7.mono K1.out.size))
  clear K1 K2 K3 K4 hb7
  go_wp2_with fail
  refine (same_look1 L3.out 1 (by omega) rfl).mono ?_
  rintro e w8 ⟨rfl, hb8⟩
  have M4 := hid (L4.out.below hb8)
  have M1 := hid (L1.out.trans (hb8.mono L1.out.size))
  clear L1 L3 L4 hb8
  go_wp2_with fail
  refine (same_look1 M4.out 6 (by omega) rfl).mono ?_
  rintro e w9 ⟨rfl, hb9⟩
  have P1 := hid (M1.out.trans (hb9.mono M1.out.size))
  clear M1 M4 hb9
  go_wp2
  go_ret
  exact ⟨rfl, P1.out⟩
end Go.Proofs.YtclopblgdiahiaaDoor
namespace Go.Proofs.YtclopblgdiahiaaDoor
open Go.RowKit

/-- x where p holds, else 0. -/
noncomputable def pick (p : Prop) (x : Int) : Int := @ite Int p (Classical.propDecidable p) x 0
theorem pick_pos {p : Prop} {x : Int} (h : p) : pick p x = x := by unfold pick; exact if_pos h
theorem pick_neg {p : Prop} {x : Int} (h : ¬ p) : pick p x = 0 := by unfold pick; exact if_neg h
/-- The number of the answer j. -/
noncomputable def ansV (f : Nat → Int) (n : Nat) (h : Nat → Int) (m : Nat) : Nat → Int
  | 0 => pick (Fm f n ∧ Fm h m) (vf f n + vf h m)
  | 1 => pick (Fm f n ∧ Fm h m ∧ vf h m ≤ vf f n) (vf f n - vf h m)
  | 2 => pick (Fm f n ∧ Fm h m) (vf f n * vf h m)
  | 3 => pick (Fm f n ∧ Fm h m ∧ 0 < m) (vf f n / vf h m)
  | 4 => pick (Fm f n ∧ Fm h m ∧ 0 < m) (vf f n % vf h m)
  | 5 => pick (Fm f n ∧ Fm h m) (Nat.gcd (vf f n).toNat (vf h m).toNat : Nat)
  | 6 => pick (Fm f n) (vf f n * 2 ^ (3 : Int).toNat)
  | _ => pick (Fm f n) (vf f n * 2 ^ (0 : Int).toNat)
theorem vf_k0 {f : Nat → Int} {k : Nat} (h : k = 0) : vf f k = 0 := by subst h; rfl
theorem ans_two {f h f' : Nat → Int} {n m k : Nat} {er X : Int} (c : Fm f n ∧ Fm h m ∧ er = 0 ∧ vf f' k = X ∨ ¬ (Fm f n ∧ Fm h m) ∧ er = 3 ∧ k = 0) : vf f' k = pick (Fm f n ∧ Fm h m) X := by
  rcases c with ⟨a, b, _, e⟩ | ⟨a, _, e⟩
  · rw [pick_pos ⟨a, b⟩, e]
  · rw [pick_neg a, vf_k0 e]
theorem ans_sub {f h f' : Nat → Int} {n m k : Nat} {er : Int} (c : Fm f n ∧ Fm h m ∧ vf h m ≤ vf f n ∧ er = 0 ∧ vf f' k = vf f n - vf h m ∨ Fm f n ∧ Fm h m ∧ vf f n < vf h m ∧ er = 1 ∧ k = 0 ∨ ¬ (Fm f n ∧ Fm h m) ∧ er = 3 ∧ k = 0) : vf f' k = ansV f n h m 1 := by
  show _ = pick _ _
  rcases c with ⟨a, b, d, _, e⟩ | ⟨a, b, d, _, e⟩ | ⟨a, _, e⟩
  · rw [pick_pos ⟨a, b, d⟩, e]
  · rw [pick_neg (fun x => by have := x.2.2; omega), vf_k0 e]
  · rw [pick_neg (fun x => a ⟨x.1, x.2.1⟩), vf_k0 e]
theorem ans_div {f h q r : Nat → Int} {n m k1 k2 : Nat} {er : Int} (c : DivAns n m f h k1 k2 q r er) : vf q k1 = ansV f n h m 3 ∧ vf r k2 = ansV f n h m 4 := by
  show _ = pick _ _ ∧ _ = pick _ _
  rcases c with ⟨a, b, d, _, e, r0, r1⟩ | ⟨a, b, d, _, e, e'⟩ | ⟨a, _, e, e'⟩
  · rw [pick_pos ⟨a, b, d⟩, pick_pos ⟨a, b, d⟩]
    have hb : 0 < vf h m := by omega
    have h1 := (Int.ediv_emod_unique (a := vf f n) (b := vf h m) (r := vf r k2) (q := vf q k1) hb).2 ⟨by rw [e, Int.mul_comm]; omega, r0, r1⟩
    exact ⟨h1.1.symm, h1.2.symm⟩
  · rw [pick_neg (fun x => by have := x.2.2; omega), pick_neg (fun x => by have := x.2.2; omega), vf_k0 e, vf_k0 e']; exact ⟨rfl, rfl⟩
  · rw [pick_neg (fun x => a ⟨x.1, x.2.1⟩), pick_neg (fun x => a ⟨x.1, x.2.1⟩), vf_k0 e, vf_k0 e']; exact ⟨rfl, rfl⟩
theorem ans_shl {f f' : Nat → Int} {n k : Nat} {er z X : Int} (z0 : 0 ≤ z) (z1 : z ≤ 65536) (c : (z < 0 ∨ 65536 < z) ∧ er = 1 ∧ k = 0 ∨ 0 ≤ z ∧ z ≤ 65536 ∧ ¬ Fm f n ∧ er = 3 ∧ k = 0 ∨ 0 ≤ z ∧ z ≤ 65536 ∧ Fm f n ∧ er = 0 ∧ vf f' k = X) : vf f' k = pick (Fm f n) X := by
  rcases c with ⟨a, _⟩ | ⟨_, _, a, _, e⟩ | ⟨_, _, a, _, e⟩
  · omega
  · rw [pick_neg a, vf_k0 e]
  · rw [pick_pos a, e]
theorem all8 {P : Nat → Prop} (h0 : P 0) (h1 : P 1) (h2 : P 2) (h3 : P 3) (h4 : P 4) (h5 : P 5) (h6 : P 6) (h7 : P 7) : ∀ j, j < 8 → P j := by
  intro j hj
  match j, hj with
  | 0, _ => exact h0
  | 1, _ => exact h1
  | 2, _ => exact h2
  | 3, _ => exact h3
  | 4, _ => exact h4
  | 5, _ => exact h5
  | 6, _ => exact h6
  | 7, _ => exact h7
  | j + 8, h => omega
/-- Eight lists. -/
def eight (a b c d e f g h : Ls) : Nat → Ls
  | 0 => a | 1 => b | 2 => c | 3 => d | 4 => e | 5 => f | 6 => g | _ => h
theorem sym_dis {N : Nat} {L : Nat → Ls} (h : ∀ k, k < N → ∀ j, j < k → Apart (L j).p (L k).p) : ∀ j k, j < N → k < N → j ≠ k → Apart (L j).p (L k).p := by
  intro j k hj hk hjk
  by_cases hlt : j < k
  · exact h k hk j hlt
  · exact (h j hj k (by omega)).symm
/-- Lists that a call answers: in blocks of their own, each in form. -/
structure AnsF (N C : Nat) (w w' : World) (g : Nat) (L : Nat → Ls) (V : Nat → Int) : Prop where
  bel : Below w.heap.size w w'
  fam : Fam 22 w' g N L
  gs : w.heap.size ≤ g
  own : ∀ j, j < N → Lo .u64 26 w' (L j)
  dis : ∀ j k, j < N → k < N → j ≠ k → Apart (L j).p (L k).p
  loc : ∀ j, j < N → ∀ a, (L j).p = some a → a.block ≠ g ∧ w.heap.size ≤ a.block
  lm : ∀ j, j < N → Lm (L j).f (L j).n
  fm : ∀ j, j < N → Fm (L j).f (L j).n
  le : ∀ j, j < N → (L j).n ≤ C
  val : ∀ j, j < N → vf (L j).f (L j).n = V j
/-- One list of them: where it lies, before the row of all is laid. -/
structure An (C : Nat) (w0 w : World) (l : Ls) (v : Int) : Prop where
  own : Lo .u64 26 w l
  loc : ∀ a, l.p = some a → w0.heap.size ≤ a.block
  lm : Lm l.f l.n
  fm : Fm l.f l.n
  le : l.n ≤ C
  val : vf l.f l.n = v
theorem An.later {C w0 w w' l v} (h : An C w0 w l v) (hb : Below w.heap.size w w') : An C w0 w' l v := ⟨Own.below h.own hb, h.loc, h.lm, h.fm, h.le, h.val⟩
theorem An.und {C w0 w l v} (h : An C w0 w l v) : Und l.p w.heap.size := fun a ha => h.own.lt a ha
theorem Res.an {C D w0 w w' ao n cap f v} (h : Res C w w' ao n cap f) (hb : Below w0.heap.size w0 w) (hC : C ≤ D) (hD : D ≤ 4096) (hv : vf f n = v) : An D w0 w' ⟨ao, n, cap, f⟩ v := by
  refine ⟨?_, ?_, h.lm, h.fm, Nat.le_trans h.le hC, hv⟩
  · show Own _ _ _ _ _ _ _
    rcases h.own with ⟨rfl, rfl, rfl⟩ | ⟨g, rfl, h1, h2, h3, h4, h5⟩
    · exact own_nil _ _ _ _ _
    · exact own_of_blk h5 (Nat.zero_le _) h3 (by unfold maxLen; omega)
  · intro a ha
    have hs := hb.size
    rcases h.own with ⟨rfl, _, _⟩ | ⟨g, rfl, h1, h2, h3, h4, h5⟩
    · cases ha
    · cases ha; simp; omega
theorem fam8 (w : World) (a b c d e f g h : Ls) : Fam 22 (w.alloc (.cells #[.slice a.p a.n a.c, .slice b.p b.n b.c, .slice c.p c.n c.c, .slice d.p d.n d.c, .slice e.p e.n e.c, .slice f.p f.n f.c, .slice g.p g.n g.c, .slice h.p h.n h.c] 22)) w.heap.size 8 (eight a b c d e f g h) :=
  ⟨_, heap_alloc_new w _, rfl, all8 rfl rfl rfl rfl rfl rfl rfl rfl⟩
theorem ans8 {C : Nat} {w0 w : World} {a b c d e f g h : Ls} {V : Nat → Int} (hb : Below w0.heap.size w0 w) (h0 : An C w0 w a (V 0)) (h1 : An C w0 w b (V 1)) (h2 : An C w0 w c (V 2)) (h3 : An C w0 w d (V 3)) (h4 : An C w0 w e (V 4)) (h5 : An C w0 w f (V 5)) (h6 : An C w0 w g (V 6)) (h7 : An C w0 w h (V 7))
    (d01 : Apart a.p b.p) (d02 : Apart a.p c.p) (d12 : Apart b.p c.p) (d03 : Apart a.p d.p) (d13 : Apart b.p d.p) (d23 : Apart c.p d.p) (d04 : Apart a.p e.p) (d14 : Apart b.p e.p) (d24 : Apart c.p e.p) (d34 : Apart d.p e.p) (d05 : Apart a.p f.p) (d15 : Apart b.p f.p) (d25 : Apart c.p f.p) (d35 : Apart d.p f.p) (d45 : Apart e.p f.p) (d06 : Apart a.p g.p) (d16 : Apart b.p g.p) (d26 : Apart c.p g.p) (d36 : Apart d.p g.p) (d46 : Apart e.p g.p) (d56 : Apart f.p g.p) (d07 : Apart a.p h.p) (d17 : Apart b.p h.p) (d27 : Apart c.p h.p) (d37 : Apart d.p h.p) (d47 : Apart e.p h.p) (d57 : Apart f.p h.p) (d67 : Apart g.p h.p) :
    AnsF 8 C w0 (w.alloc (.cells #[.slice a.p a.n a.c, .slice b.p b.n b.c, .slice c.p c.n c.c, .slice d.p d.n d.c, .slice e.p e.n e.c, .slice f.p f.n f.c, .slice g.p g.n g.c, .slice h.p h.n h.c] 22)) w.heap.size (eight a b c d e f g h) V := by
  refine ⟨hb.alloc hb.size _, fam8 w a b c d e f g h, hb.size, all8 (h0.own.alloc _) (h1.own.alloc _) (h2.own.alloc _) (h3.own.alloc _) (h4.own.alloc _) (h5.own.alloc _) (h6.own.alloc _) (h7.own.alloc _), sym_dis (all8 ?_ ?_ ?_ ?_ ?_ ?_ ?_ ?_), all8 (fun x hx => ⟨Nat.ne_of_lt (h0.own.lt x hx), h0.loc x hx⟩) (fun x hx => ⟨Nat.ne_of_lt (h1.own.lt x hx), h1.loc x hx⟩) (fun x hx => ⟨Nat.ne_of_lt (h2.own.lt x hx), h2.loc x hx⟩) (fun x hx => ⟨Nat.ne_of_lt (h3.own.lt x hx), h3.loc x hx⟩) (fun x hx => ⟨Nat.ne_of_lt (h4.own.lt x hx), h4.loc x hx⟩) (fun x hx => ⟨Nat.ne_of_lt (h5.own.lt x hx), h5.loc x hx⟩) (fun x hx => ⟨Nat.ne_of_lt (h6.own.lt x hx), h6.loc x hx⟩) (fun x hx => ⟨Nat.ne_of_lt (h7.own.lt x hx), h7.loc x hx⟩), all8 h0.lm h1.lm h2.lm h3.lm h4.lm h5.lm h6.lm h7.lm, all8 h0.fm h1.fm h2.fm h3.fm h4.fm h5.fm h6.fm h7.fm, all8 h0.le h1.le h2.le h3.le h4.le h5.le h6.le h7.le, all8 h0.val h1.val h2.val h3.val h4.val h5.val h6.val h7.val⟩
  · intro j hj
    omega
  · intro j hj
    match j, hj with
    | 0, _ => exact d01
    | j + 1, h => omega
  · intro j hj
    match j, hj with
    | 0, _ => exact d02
    | 1, _ => exact d12
    | j + 2, h => omega
  · intro j hj
    match j, hj with
    | 0, _ => exact d03
    | 1, _ => exact d13
    | 2, _ => exact d23
    | j + 3, h => omega
  · intro j hj
    match j, hj with
    | 0, _ => exact d04
    | 1, _ => exact d14
    | 2, _ => exact d24
    | 3, _ => exact d34
    | j + 4, h => omega
  · intro j hj
    match j, hj with
    | 0, _ => exact d05
    | 1, _ => exact d15
    | 2, _ => exact d25
    | 3, _ => exact d35
    | 4, _ => exact d45
    | j + 5, h => omega
  · intro j hj
    match j, hj with
    | 0, _ => exact d06
    | 1, _ => exact d16
    | 2, _ => exact d26
    | 3, _ => exact d36
    | 4, _ => exact d46
    | 5, _ => exact d56
    | j + 6, h => omega
  · intro j hj
    match j, hj with
    | 0, _ => exact d07
    | 1, _ => exact d17
    | 2, _ => exact d27
    | 3, _ => exact d37
    | 4, _ => exact d47
    | 5, _ => exact d57
    | 6, _ => exact d67
    | j + 7, h => omega

set_option maxRecDepth 100000 in
set_option maxHeartbeats 4000000 in
theorem answers_c (ao bo : Option Addr) (n m ca cb : Nat) (f h : Nat → Int) (w : World) (hn : n ≤ 60) (hm : m ≤ 60) (hca : n ≤ ca) (hcb : m ≤ cb) (hcam : ca ≤ 9223372036854775807) (hcbm : cb ≤ 9223372036854775807) (hr : Rd .u64 w ao n f) (hs : Rd .u64 w bo m h) (hf : Lm f n) (hh : Lm h m) :
    Calls Tryd.prog 7 #[.slice ao n ca, .slice bo m cb] w fun e w' => ∃ g L, e = .returned (.slice (some ⟨g, 0, none⟩) 8 8) ∧ AnsF 8 2000 w w' g L (ansV f n h m) := by
  have HF := hid hf; have HH := hid hh; have HR := hid hr; have HS := hid hs; have HB := hid (Below.refl w.heap.size w)
  clear hr hs hf hh
  go_enter Tryd.func7, Tryd.ntmps7
  go_wp2_with fail
  refine (Add_c ao bo n m ca cb f h _ (by omega) (by omega) HR.out HS.out HF.out HH.out).mono ?_
  rintro e w1 ⟨p0, k0, c0, f0, er, rfl, hres, hc⟩
  have hv : vf f0 k0 = ansV f n h m 0 := ans_two hc
  have N0 := hid (hres.an HB.out (D := 2000) (by omega) (by omega) hv)
  have hb := hres.bel
  have HR2 := hid (HR.out.below hb (Nat.le_refl _)); have HS2 := hid (HS.out.below hb (Nat.le_refl _)); have HB2 := hid (HB.out.trans (hb.mono HB.out.size))
  clear hres hc hv hb HR HS HB 
  have HR := HR2; have HS := HS2; have HB := HB2
  clear HR2 HS2 HB2
  go_wp2_with fail
  refine (Sub_c ao bo n m ca cb f h _ (by omega) (by omega) HR.out HS.out HF.out HH.out).mono ?_
  rintro e w2 ⟨p1, k1, c1, f1, er, rfl, hres, hc⟩
  have hv : vf f1 k1 = ansV f n h m 1 := ans_sub hc
  have N1 := hid (hres.an HB.out (D := 2000) (by omega) (by omega) hv)
  have D01 := hid (hres.apart N0.out.und (Nat.le_refl _))
  have hb := hres.bel
  have M0 := hid (N0.out.later hb)
  have HR2 := hid (HR.out.below hb (Nat.le_refl _)); have HS2 := hid (HS.out.below hb (Nat.le_refl _)); have HB2 := hid (HB.out.trans (hb.mono HB.out.size))
  clear hres hc hv hb HR HS HB N0
  have HR := HR2; have HS := HS2; have HB := HB2
  clear HR2 HS2 HB2
  have N0 := M0
  clear M0
  go_wp2_with fail
  refine (Mul_c ao bo n m ca cb f h _ (by omega) (by omega) hca hcb hcam hcbm HR.out HS.out HF.out HH.out).mono ?_
  rintro e w3 ⟨p2, k2, c2, f2, er, rfl, hres, hc⟩
  have hv : vf f2 k2 = ansV f n h m 2 := ans_two hc
  have N2 := hid (hres.an HB.out (D := 2000) (by omega) (by omega) hv)
  have D02 := hid (hres.apart N0.out.und (Nat.le_refl _))
  have D12 := hid (hres.apart N1.out.und (Nat.le_refl _))
  have hb := hres.bel
  have M0 := hid (N0.out.later hb)
  have M1 := hid (N1.out.later hb)
  have HR2 := hid (HR.out.below hb (Nat.le_refl _)); have HS2 := hid (HS.out.below hb (Nat.le_refl _)); have HB2 := hid (HB.out.trans (hb.mono HB.out.size))
  clear hres hc hv hb HR HS HB N0 N1
  have HR := HR2; have HS := HS2; have HB := HB2
  clear HR2 HS2 HB2
  have N0 := M0
  clear M0
  have N1 := M1
  clear M1
  go_wp2_with fail
  refine (DivMod_cA ao bo n m ca cb f h _ (by omega) (by omega) HR.out HS.out HF.out HH.out).mono ?_
  rintro e w4 ⟨p3, k3, c3, f3, p4, k4, c4, f4, er, rfl, hres, hres2, hc, hap⟩
  have hv := ans_div hc
  have N3 := hid (hres.an HB.out (D := 2000) (by omega) (by omega) hv.1)
  have N4 := hid (hres2.an HB.out (D := 2000) (by omega) (by omega) hv.2)
  have D34 := hid hap
  have D03 := hid (hres.apart N0.out.und (Nat.le_refl _)); have D04 := hid (hres2.apart N0.out.und (Nat.le_refl _))
  have D13 := hid (hres.apart N1.out.und (Nat.le_refl _)); have D14 := hid (hres2.apart N1.out.und (Nat.le_refl _))
  have D23 := hid (hres.apart N2.out.und (Nat.le_refl _)); have D24 := hid (hres2.apart N2.out.und (Nat.le_refl _))
  have hb := hres.bel
  have M0 := hid (N0.out.later hb)
  have M1 := hid (N1.out.later hb)
  have M2 := hid (N2.out.later hb)
  have HR2 := hid (HR.out.below hb (Nat.le_refl _)); have HS2 := hid (HS.out.below hb (Nat.le_refl _)); have HB2 := hid (HB.out.trans (hb.mono HB.out.size))
  clear hres hc hv hb HR HS HB hres2 hap N0 N1 N2
  have HR := HR2; have HS := HS2; have HB := HB2
  clear HR2 HS2 HB2
  have N0 := M0
  clear M0
  have N1 := M1
  clear M1
  have N2 := M2
  clear M2
  go_wp2_with fail
  refine (Gcd_c ao bo n m ca cb f h _ (by omega) (by omega) HR.out HS.out HF.out HH.out).mono ?_
  rintro e w5 ⟨p5, k5, c5, f5, er, rfl, hres, hc⟩
  have hv : vf f5 k5 = ansV f n h m 5 := ans_two hc
  have N5 := hid (hres.an HB.out (D := 2000) (by omega) (by omega) hv)
  have D05 := hid (hres.apart N0.out.und (Nat.le_refl _))
  have D15 := hid (hres.apart N1.out.und (Nat.le_refl _))
  have D25 := hid (hres.apart N2.out.und (Nat.le_refl _))
  have D35 := hid (hres.apart N3.out.und (Nat.le_refl _))
  have D45 := hid (hres.apart N4.out.und (Nat.le_refl _))
  have hb := hres.bel
  have M0 := hid (N0.out.later hb)
  have M1 := hid (N1.out.later hb)
  have M2 := hid (N2.out.later hb)
  have M3 := hid (N3.out.later hb)
  have M4 := hid (N4.out.later hb)
  have HR2 := hid (HR.out.below hb (Nat.le_refl _)); have HS2 := hid (HS.out.below hb (Nat.le_refl _)); have HB2 := hid (HB.out.trans (hb.mono HB.out.size))
  clear hres hc hv hb HR HS HB N0 N1 N2 N3 N4
  have HR := HR2; have HS := HS2; have HB := HB2
  clear HR2 HS2 HB2
  have N0 := M0
  clear M0
  have N1 := M1
  clear M1
  have N2 := M2
  clear M2
  have N3 := M3
  clear M3
  have N4 := M4
  clear M4
  go_wp2_with fail
  refine (Shl_c ao n ca 3 f _ (by omega) HR.out HF.out).mono ?_
  rintro e w6 ⟨p6, k6, c6, f6, er, rfl, hres, hc⟩
  have hv : vf f6 k6 = ansV f n h m 6 := ans_shl (by omega) (by omega) hc
  have N6 := hid (hres.an HB.out (D := 2000) (by omega) (by omega) hv)
  have D06 := hid (hres.apart N0.out.und (Nat.le_refl _))
  have D16 := hid (hres.apart N1.out.und (Nat.le_refl _))
  have D26 := hid (hres.apart N2.out.und (Nat.le_refl _))
  have D36 := hid (hres.apart N3.out.und (Nat.le_refl _))
  have D46 := hid (hres.apart N4.out.und (Nat.le_refl _))
  have D56 := hid (hres.apart N5.out.und (Nat.le_refl _))
  have hb := hres.bel
  have M0 := hid (N0.out.later hb)
  have M1 := hid (N1.out.later hb)
  have M2 := hid (N2.out.later hb)
  have M3 := hid (N3.out.later hb)
  have M4 := hid (N4.out.later hb)
  have M5 := hid (N5.out.later hb)
  have HR2 := hid (HR.out.below hb (Nat.le_refl _)); have HS2 := hid (HS.out.below hb (Nat.le_refl _)); have HB2 := hid (HB.out.trans (hb.mono HB.out.size))
  clear hres hc hv hb HR HS HB N0 N1 N2 N3 N4 N5
  have HR := HR2; have HS := HS2; have HB := HB2
  clear HR2 HS2 HB2
  have N0 := M0
  clear M0
  have N1 := M1
  clear M1
  have N2 := M2
  clear M2
  have N3 := M3
  clear M3
  have N4 := M4
  clear M4
  have N5 := M5
  clear M5
  go_wp2_with fail
  refine (Shl_c ao n ca 0 f _ (by omega) HR.out HF.out).mono ?_
  rintro e w7 ⟨p7, k7, c7, f7, er, rfl, hres, hc⟩
  have hv : vf f7 k7 = ansV f n h m 7 := ans_shl (by omega) (by omega) hc
  have N7 := hid (hres.an HB.out (D := 2000) (by omega) (by omega) hv)
  have D07 := hid (hres.apart N0.out.und (Nat.le_refl _))
  have D17 := hid (hres.apart N1.out.und (Nat.le_refl _))
  have D27 := hid (hres.apart N2.out.und (Nat.le_refl _))
  have D37 := hid (hres.apart N3.out.und (Nat.le_refl _))
  have D47 := hid (hres.apart N4.out.und (Nat.le_refl _))
  have D57 := hid (hres.apart N5.out.und (Nat.le_refl _))
  have D67 := hid (hres.apart N6.out.und (Nat.le_refl _))
  have hb := hres.bel
  have M0 := hid (N0.out.later hb)
  have M1 := hid (N1.out.later hb)
  have M2 := hid (N2.out.later hb)
  have M3 := hid (N3.out.later hb)
  have M4 := hid (N4.out.later hb)
  have M5 := hid (N5.out.later hb)
  have M6 := hid (N6.out.later hb)
  have HR2 := hid (HR.out.below hb (Nat.le_refl _)); have HS2 := hid (HS.out.below hb (Nat.le_refl _)); have HB2 := hid (HB.out.trans (hb.mono HB.out.size))
  clear hres hc hv hb HR HS HB N0 N1 N2 N3 N4 N5 N6
  have HR := HR2; have HS := HS2; have HB := HB2
  clear HR2 HS2 HB2
  have N0 := M0
  clear M0
  have N1 := M1
  clear M1
  have N2 := M2
  clear M2
  have N3 := M3
  clear M3
  have N4 := M4
  clear M4
  have N5 := M5
  clear M5
  have N6 := M6
  clear M6
  go_wp2
  go_ret
  exact ⟨_, _, rfl, ans8 HB.out N0.out N1.out N2.out N3.out N4.out N5.out N6.out N7.out D01.out D02.out D12.out D03.out D13.out D23.out D04.out D14.out D24.out D34.out D05.out D15.out D25.out D35.out D45.out D06.out D16.out D26.out D36.out D46.out D56.out D07.out D17.out D27.out D37.out D47.out D57.out D67.out⟩
end Go.Proofs.YtclopblgdiahiaaDoor
namespace Go.Proofs.YtclopblgdiahiaaDoor
open Go.RowKit

theorem add_agree {F H : Prop} {e1 e2 s : Int} {k1 k2 : Nat} {g1 g2 : Nat → Int} (h1 : F ∧ H ∧ e1 = 0 ∧ vf g1 k1 = s ∨ ¬ (F ∧ H) ∧ e1 = 3 ∧ k1 = 0) (h2 : F ∧ H ∧ e2 = 0 ∧ vf g2 k2 = s ∨ ¬ (F ∧ H) ∧ e2 = 3 ∧ k2 = 0) : e2 = e1 ∧ vf g1 k1 = vf g2 k2 := by
  rcases h1 with ⟨a, b, rfl, c⟩ | ⟨a, rfl, rfl⟩ <;> rcases h2 with ⟨a', b', rfl, c'⟩ | ⟨a', rfl, rfl⟩
  · exact ⟨rfl, c.trans c'.symm⟩
  · exact absurd ⟨a, b⟩ a'
  · exact absurd ⟨a', b'⟩ a
  · exact ⟨rfl, rfl⟩
theorem sub_agree {F H L1 L2 : Prop} {e1 e2 s : Int} {k1 k2 : Nat} {g1 g2 : Nat → Int} (hx : L1 → ¬ L2) (h1 : F ∧ H ∧ L1 ∧ e1 = 0 ∧ vf g1 k1 = s ∨ F ∧ H ∧ L2 ∧ e1 = 1 ∧ k1 = 0 ∨ ¬ (F ∧ H) ∧ e1 = 3 ∧ k1 = 0) (h2 : F ∧ H ∧ L1 ∧ e2 = 0 ∧ vf g2 k2 = s ∨ F ∧ H ∧ L2 ∧ e2 = 1 ∧ k2 = 0 ∨ ¬ (F ∧ H) ∧ e2 = 3 ∧ k2 = 0) : e2 = e1 ∧ vf g1 k1 = vf g2 k2 := by
  rcases h1 with ⟨a, b, l, rfl, c⟩ | ⟨a, b, l, rfl, rfl⟩ | ⟨a, rfl, rfl⟩ <;> rcases h2 with ⟨a', b', l', rfl, c'⟩ | ⟨a', b', l', rfl, rfl⟩ | ⟨a', rfl, rfl⟩
  · exact ⟨rfl, c.trans c'.symm⟩
  · exact absurd l' (hx l)
  · exact absurd ⟨a, b⟩ a'
  · exact absurd l (hx l')
  · exact ⟨rfl, rfl⟩
  · exact absurd ⟨a, b⟩ a'
  · exact absurd ⟨a', b'⟩ a
  · exact absurd ⟨a', b'⟩ a
  · exact ⟨rfl, rfl⟩
theorem ord_inj {c d a b : Int} (h1 : Ord c a b) (h2 : Ord d a b) : c = d := by unfold Ord at h1 h2; omega
theorem cmp_agree {F H : Prop} {e1 e2 c1 c2 a b : Int} (h1 : F ∧ H ∧ e1 = 0 ∧ Ord c1 a b ∨ ¬ (F ∧ H) ∧ e1 = 3 ∧ c1 = 0) (h2 : F ∧ H ∧ e2 = 0 ∧ Ord c2 a b ∨ ¬ (F ∧ H) ∧ e2 = 3 ∧ c2 = 0) : e2 = e1 ∧ c2 = c1 := by
  rcases h1 with ⟨a, b, rfl, c⟩ | ⟨a, rfl, rfl⟩ <;> rcases h2 with ⟨a', b', rfl, c'⟩ | ⟨a', rfl, rfl⟩
  · exact ⟨rfl, ord_inj c' c⟩
  · exact absurd ⟨a, b⟩ a'
  · exact absurd ⟨a', b'⟩ a
  · exact ⟨rfl, rfl⟩

end Go.Proofs.YtclopblgdiahiaaDoor

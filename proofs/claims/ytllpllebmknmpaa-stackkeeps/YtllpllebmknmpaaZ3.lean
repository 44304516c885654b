/-
  Walks of package nat's greatest common divisor: some, euclid. Walks of package nat's greatest common divisor: shorten. Walks of package nat's greatest common divisor: gcd, Gcd. The walk of nat's call Gcd, whatever it is handed. Walks of package rat's helpers: isOne, one, gcd, over, numerator, denominator, signed. Rational numbers in form that can be read; the walks of package rat's add and mul. The walk of package rat's mul. Walks of package rat's calls Form, Add, Sub, Mul, Quo on numbers in form; the document's Same and Light. Lists of terms in memory; the walks of package vec's isZero and Form. Walks of the document's reference for whole: Form, From, Text, Read, DocText, DocRead. The walk of the document's reference for nat: Mul. Digits to the base 2^32 that can be read, with their number; the reference's Add, Sub, Mul on them. Walks of the document's reference for rat: word, Mk of short numbers. Walks of the document's reference for rat: Mk of short numbers. Walks of the document's reference for rat: To, DocMake of short numbers; the statements' own num. Walks of the statements' own num, and of package rat's calls Make and Floor. The walk of package rat's call Floor. Walks of package rat's clone, Copy and Neg. Lists of rational numbers in memory; the walks of package vec's allForm, allBelow, plus and times. Walks of the document's Same and Light of rational numbers, and of the statements' own light. The statements' looks at how long the numbers of lists are (light, Lights). What the rows of this seat share: how arguments that are rational numbers, lists of numbers and lists of terms are opened. The seat's rows list no tables. The walks of Least, of package model and of the reference. How arguments that are points, bases and certificates are opened.
-/
import Derived.Test.YtllpllebmknmpaaZ2
import Derived.Test.YtllpllebmknmpaaZ1
import Derived.Test.YtllpllebmknmpaaRows
import Derived.Test.YtllpllebmknmpaaChecked
import Derived.ProofKit
import Derived.OpenShut
import Derived.ChangeSame
import Derived.Deep.Slices
import Derived.Deep.DeepHandedRow
namespace Go.Proofs.Ytllpllebmknmpaa
open Go.RowKit

set_option maxHeartbeats 400000 in
theorem some_c (a0 b0 a1 b1 : Int) (odd : Bool) (w : World) : Calls Try.prog 88 #[.agg #[.int .u64 a0, .int .u64 b0, .int .u64 a1, .int .u64 b1, .bool odd]] w fun e w' => e = .returned (.bool (b0 != 0)) ∧ Below w.heap.size w w' := by
  go_enter Try.func88, Try.ntmps88
  go_wp2
  go_ret
  exact ⟨rfl, (Below.refl _ _).alloc (Nat.le_refl _) _⟩

/-- A number in a block of the call's own (blocks from base on). -/
def One (base : Nat) (w : World) (x : Option Addr) (k c g : Nat) (A : Int) : Prop := ∃ P, x = some ⟨g, 0, none⟩ ∧ 0 < k ∧ k ≤ c ∧ c ≤ 140737488355328 ∧ base ≤ g ∧ Blk .u64 63 w g c P ∧ Lm P c ∧ Fm P k ∧ vf P k = A
theorem One.below {base w w' x k c g A} (h : One base w x k c g A) (hb : Below w.heap.size w w') : One base w' x k c g A := by
  obtain ⟨P, h1, h2, h3, h4, h5, h6, h7, h8, h9⟩ := h
  exact ⟨P, h1, h2, h3, h4, h5, h6.below hb h6.lt, h7, h8, h9⟩
/-- Two numbers, the second maybe 0, in blocks of their own. -/
def Two (base : Nat) (w : World) (x1 : Option Addr) (k1 c1 : Nat) (x2 : Option Addr) (k2 c2 : Nat) (A B : Int) : Prop :=
  ∃ g1, One base w x1 k1 c1 g1 A ∧ 0 ≤ B ∧ B ≤ A ∧ ((x2 = none ∧ k2 = 0 ∧ c2 = 0 ∧ B = 0) ∨ ∃ g2, g1 ≠ g2 ∧ One base w x2 k2 c2 g2 B)
theorem Two.below {base w w' x1 k1 c1 x2 k2 c2 A B} (h : Two base w x1 k1 c1 x2 k2 c2 A B) (hb : Below w.heap.size w w') : Two base w' x1 k1 c1 x2 k2 c2 A B := by
  obtain ⟨g1, h1, h2, h3, h4⟩ := h
  exact ⟨g1, h1.below hb, h2, h3, h4.imp id (fun ⟨g2, a, b⟩ => ⟨g2, a, b.below hb⟩)⟩

set_option maxRecDepth 100000 in
set_option maxHeartbeats 8000000 in
theorem euclid_c (base : Nat) (x1 x2 : Option Addr) (k1 c1 k2 c2 K : Nat) (A B : Int) (w : World) (h : Two base w x1 k1 c1 x2 k2 c2 A B) (hk2 : 2 ≤ k2) (hAK : A < pw K) (hK : K ≤ 8796093022207) (hbase : base ≤ w.heap.size) :
    Calls Try.prog 82 #[.slice x1 k1 c1, .slice x2 k2 c2] w fun e w' => ∃ y1 l1 d1 y2 l2 d2 A' B', e = .returned (.tuple #[.slice y1 l1 d1, .slice y2 l2 d2]) ∧ Below base w w' ∧ Two base w' y1 l1 d1 y2 l2 d2 A' B' ∧ Cd A' B' A B ∧ B' < B ∧ A' ≤ A := by
  obtain ⟨g1, ⟨P, rfl, a1, a2, a3, a4, hbP, lP, fP, vP⟩, b0, b1, h2⟩ := h
  rcases h2 with ⟨_, hz, _⟩ | ⟨g2, hne, Q, rfl, e1, e2, e3, e4, hbQ, lQ, fQ, vQ⟩
  · omega
  have hk1K : k1 ≤ K := mid_len (lP.mono a2) fP (by rw [vP]; exact hAK)
  have hk21 : k2 ≤ k1 := vf_len (lQ.mono e2) (lP.mono a2) fQ (by rw [vP, vQ]; exact b1)
  have hA0 : 0 ≤ A := by rw [← vP]; exact vf_nonneg (lP.mono a2)
  have hBlt : B < pw k2 := by rw [← vQ]; exact vf_lt (lQ.mono e2)
  obtain ⟨x, y, hT, cH⟩ := highBits_c (some ⟨g1, 0, none⟩) (some ⟨g2, 0, none⟩) k1 k2 c1 c2 P Q w (by omega) (by omega) hk21 (hbP.rd0 a2) (hbQ.rd0 e2) (lP.mono a2) (lQ.mono e2) fP (by rw [vP, vQ]; exact b1)
  rw [vP, vQ] at hT
  obtain ⟨t1, t2, t3, t4, T, ra, rb, hA, hB, ra0, ra1, rb0, rb1⟩ := hT
  have CH := hid cH
  have CF := hid (fun W => findSteps_c x y W t3 t4 (by omega) t2)
  have HP := hid hbP; have HQ := hid hbQ; have LP := hid lP; have LQ := hid lQ; have FP := hid fP; have FQ := hid fQ; have VP := hid vP; have VQ := hid vQ; have HA := hid hA; have HB := hid hB; have BLT := hid hBlt
  clear cH hbP hbQ lP lQ fP fQ vP vQ hA hB hBlt hAK
  go_enter Try.func82, Try.ntmps82
  go_wp2_with fail
  refine CH.out.mono ?_
  rintro e w1 ⟨rfl, q1, rfl⟩
  go_wp2_with fail
  refine (CF.out _).mono ?_
  rintro e w2 ⟨hbel2, a0, b0', a1', b1', odd, a, b, rfl, hL, hx0⟩
  have HL := hid hL; have HX0 := hid hx0
  have BE2 := hid (show Below w.heap.size w w2 from ⟨hbel2.os, hbel2.tape, hbel2.output, hbel2.size, hbel2.block⟩)
  clear hL hx0 hbel2 CF CH
  go_wp2_with fail
  refine (some_c a0 b0' a1' b1' odd _).mono ?_
  rintro e w3 ⟨rfl, hbel3⟩
  have hS3 : SB w3 w2.heap.size a0 b0' a1' b1' odd := (show SB (w2.alloc _) w2.heap.size a0 b0' a1' b1' odd from heap_alloc_new w2 _).below hbel3
  have z2 := BE2.out.size
  have BE3 := hid (show Below w.heap.size w w3 from (BE2.out.alloc z2 _).trans (hbel3.mono (by simp; omega)))
  have HP3 := hid (HP.out.below BE3.out HP.out.lt); have HQ3 := hid (HQ.out.below BE3.out HQ.out.lt)
  obtain ⟨s0, s1, s2, s3, s4⟩ := hS3.cells
  have g1lt := HP.out.lt; have g2lt := HQ.out.lt
  clear hbel3 hS3 HP HQ
  by_cases hz : b0' = 0
  · have hzb : (b0' != 0) = false := by simp [hz]
    rw [hzb]
    go_wp2_with fail
    refine (divMod_c (some ⟨g1, 0, none⟩) (some ⟨g2, 0, none⟩) k1 k2 c1 c2 P Q w3 (by omega) (by omega) (HP3.out.rd0 a2) (HQ3.out.rd0 e2) (LP.out.mono a2) (LQ.out.mono e2) FP.out FQ.out (by omega)).mono ?_
    rintro e w4 ⟨xq, kq, cq, q, xr, kr, cr, r, rfl, hresq, hresr, hv, hr0, hr1⟩
    rw [VP.out, VQ.out] at hv
    rw [VQ.out] at hr1
    have HV := hid hv; have HR0 := hid hr0; have HR1 := hid hr1; have HRS := hid hresr
    have HQ4 := hid (HQ3.out.below hresr.bel HQ3.out.lt)
    clear hv hr0 hr1 hresq hresr
    go_wp2
    go_ret2
    have hb4 := BE3.out.trans (HRS.out.bel.mono BE3.out.size)
    refine ⟨_, k2, c2, _, kr, cr, B, vf r kr, rfl, hb4.mono hbase, ⟨g2, ⟨Q, rfl, by omega, e2, e3, e4, HQ4.out, LQ.out, FQ.out, VQ.out⟩, HR0.out, by have := HR1.out; omega, ?_⟩, ?_, HR1.out, b1⟩
    · have hnc := HRS.out.ncap
      have z3 := BE3.out.size
      rcases HRS.out.own with ⟨rfl, rfl, rfl⟩ | ⟨gr, rfl, hgr, hk0, hkc, hcC, hbr⟩
      · exact .inl ⟨rfl, rfl, rfl, rfl⟩
      · exact .inr ⟨gr, by omega, r, rfl, hk0, hkc, by omega, by omega, hbr, HRS.out.lmc, HRS.out.fm, rfl⟩
    · have e : vf r kr = A - vf q kq * B := by have := HV.out; omega
      rw [e]
      exact (Cd.refl A B).step _
  · have hzb : (b0' != 0) = true := by simp [hz]
    rw [hzb]
    obtain ⟨hled, m0, m1, m2, m3⟩ := lh_some HL.out hz
    obtain ⟨n0, n1, n2, n3⟩ := lh_none HL.out
    have hl := hled T ra rb ra0 ra1 rb0 rb1
    rw [← HA.out, ← HB.out] at hl
    obtain ⟨l1, l2, l3, l4⟩ := hl
    have HC := hid l4
    clear l4 hled
    obtain ⟨U, hU⟩ : ∃ U, stU odd a0 b0' A B = U := ⟨_, rfl⟩
    obtain ⟨V, hV⟩ : ∃ V, stV odd a1' b1' A B = V := ⟨_, rfl⟩
    rw [hU, hV] at HC
    rw [hV] at l1 l2
    rw [hU] at l2 l3
    have CA := hid (apply_c g1 g2 c1 c2 k1 k2 P Q a0 b0' a1' b1' odd w3 HP3.out HQ3.out LP.out LQ.out hne a2 e2 hk21 (by omega) a3 e3 ⟨n0, by omega⟩ ⟨n1, by omega⟩ ⟨n2, by omega⟩ ⟨n3, by omega⟩ U V (by rw [VP.out, VQ.out]; exact hU) (by rw [VP.out, VQ.out]; exact hV) (by omega) (by have := BLT.out; omega) (by omega) (by have := BLT.out; omega))
    clear hU hV hz
    go_wp2_with fail
    refine CA.out.mono ?_
    rintro e w4 ⟨hon2, gp, gq, Np, Nq, t1', t2', d1, d2, P', Q', y1, y2, rfl, hside, hbp, hbq, lp, lq, hNp, hNq, hx1, hx2, hl1, hl2, fp, fq, vp, vq⟩
    have H1 := hid hside; have H2 := hid hbp; have H3 := hid hbq; have H4 := hid lp; have H5 := hid lq; have H6 := hid hx1; have H7 := hid hx2; have H8 := hid fp; have H9 := hid fq; have H10 := hid vp; have H11 := hid vq; have HON := hid hon2
    clear hside hbp hbq lp lq hx1 hx2 fp fq vp vq hon2 CA
    go_wp2
    go_ret2
    have z3 := BE3.out.size
    have hb4 : Below base w w4 := HON.out.below (BE3.out.mono hbase) a4 e4 (by omega)
    have hgp : base ≤ gp ∧ base ≤ gq ∧ gp ≠ gq := by rcases H1.out with ⟨rfl, rfl⟩ | ⟨rfl, rfl⟩ <;> omega
    refine ⟨y1, t1', d1, y2, t2', d2, U, V, rfl, hb4, ⟨gp, ?_, by omega, by omega, ?_⟩, HC.out, by omega, by omega⟩
    · rcases H6.out with ⟨_, hk0, _⟩ | ⟨h1, h2, h3⟩
      · have := H10.out
        rw [hk0] at this
        simp [vf] at this
        omega
      · exact ⟨P', h1, h2, by omega, by omega, hgp.1, by rw [h3]; exact H2.out, by rw [h3]; exact H4.out, H8.out, H10.out⟩
    · rcases H7.out with ⟨h1, h2, h3⟩ | ⟨h1, h2, h3⟩
      · left
        refine ⟨h1, h2, h3, ?_⟩
        rw [← H11.out, h2]; rfl
      · exact .inr ⟨gq, hgp.2.2, Q', h1, h2, by omega, by omega, hgp.2.1, by rw [h3]; exact H3.out, by rw [h3]; exact H5.out, H9.out, H11.out⟩
end Go.Proofs.Ytllpllebmknmpaa
namespace Go.Proofs.Ytllpllebmknmpaa
open Go.RowKit

/-- The number that a list in memory tells. -/
noncomputable def vOf (w : World) (v : Value) : Nat := match v with
  | .slice (some a) k _ => (vf (fun j => match w.cell? ⟨a.block, a.off + j, none⟩ with | some (.int _ z) => z | _ => 0) k).toNat
  | _ => 0
theorem One.vOf {base w x k c g A} (h : One base w x k c g A) : vOf w (.slice x k c) = A.toNat := by
  obtain ⟨P, rfl, h2, h3, h4, h5, h6, h7, h8, h9⟩ := h
  rw [← h9]
  show (vf _ k).toNat = _
  congr 1
  refine vf_congr (fun j hj => ?_)
  have := h6.cell (j := j) (by omega)
  simp only [Nat.zero_add]
  rw [this]
theorem Two.vOf {base w x1 k1 c1 x2 k2 c2 A B} (h : Two base w x1 k1 c1 x2 k2 c2 A B) : vOf w (.slice x2 k2 c2) = B.toNat := by
  obtain ⟨g1, h1, h2, h3, h4⟩ := h
  rcases h4 with ⟨rfl, rfl, rfl, rfl⟩ | ⟨g2, _, h5⟩
  · rfl
  · exact h5.vOf

set_option maxRecDepth 100000 in
set_option maxHeartbeats 4000000 in
theorem shorten_c (base : Nat) (x1 x2 : Option Addr) (k1 c1 k2 c2 K : Nat) (A B : Int) (w : World) (h : Two base w x1 k1 c1 x2 k2 c2 A B) (hAK : A < pw K) (hK : K ≤ 8796093022207) (hbase : base ≤ w.heap.size) :
    Calls Try.prog 76 #[.slice x1 k1 c1, .slice x2 k2 c2] w fun e w' => ∃ y1 l1 d1 y2 l2 d2 A' B', e = .returned (.tuple #[.slice y1 l1 d1, .slice y2 l2 d2]) ∧ Below base w w' ∧ Two base w' y1 l1 d1 y2 l2 d2 A' B' ∧ Cd A' B' A B ∧ l2 ≤ 1 ∧ A' ≤ A := by
  have HT := hid h; have HAK := hid hAK
  clear h hAK
  go_enter Try.func76, Try.ntmps76
  go_wp2
  go_loopw [0, 1] (fun u v wr => ∃ (y1 : Option Addr) (l1 d1 : Nat) (y2 : Option Addr) (l2 d2 : Nat) (A' B' : Int), u = .slice y1 l1 d1 ∧ v = .slice y2 l2 d2 ∧ Hid (Below base w wr) ∧ base ≤ wr.heap.size ∧ Hid (Two base wr y1 l1 d1 y2 l2 d2 A' B') ∧ Hid (Cd A' B' A B) ∧ Hid (A' ≤ A)) (fun _ v wr => vOf wr v)
  case atStart => exact ⟨x1, k1, c1, x2, k2, c2, A, B, rfl, rfl, Below.refl _ _, hbase, HT.out, Cd.refl _ _, Int.le_refl _⟩
  case round =>
    clear HT
    obtain ⟨y1, l1, d1, y2, l2, d2, A', B', rfl, rfl, HB, hbs, HT, HC, HA⟩ := hrel
    by_cases hl : 1 < l2
    · have hlb : decide ((1 : Int) < (l2 : Int)) = true := by simp; omega
      have CE := hid (euclid_c base y1 y2 l1 d1 l2 d2 K A' B' wr HT.out (by omega) (by have := HA.out; have := HAK.out; omega) hK hbs)
      go_wp2_with fail
      refine CE.out.mono ?_
      rintro e w2 ⟨z1, m1, f1, z2, m2, f2, A2, B2, rfl, hb2, ht2, hc2, hlt, hle⟩
      have H1 := hid (HB.out.trans hb2); have H2 := hid ht2; have H3 := hid (hc2.trans HC.out); have H4 := hid hlt; have H5 := hid (show A2 ≤ A by have := HA.out; omega)
      have hsz := hb2.size
      clear hb2 ht2 hc2 hlt hle CE
      go_wp2
      go_roundw
      case rel => exact ⟨z1, m1, f1, z2, m2, f2, A2, B2, rfl, rfl, H1.out, by omega, H2.out, H3.out, H5.out⟩
      case measure =>
        have e1 := H2.out.vOf
        have e2 := HT.out.vOf
        have h0 : 0 ≤ B2 := by obtain ⟨_, _, h, _⟩ := H2.out; exact h
        have hlt := H4.out
        show vOf w2 (.slice z2 m2 f2) < vOf wr (.slice y2 l2 d2)
        rw [e1, e2]; omega
    · have hlb : decide ((1 : Int) < (l2 : Int)) = false := by simp; omega
      go_wp2
      go_ret2
      exact ⟨y1, l1, d1, y2, l2, d2, A', B', rfl, HB.out, HT.out, HC.out, by omega, HA.out⟩
end Go.Proofs.Ytllpllebmknmpaa
namespace Go.Proofs.Ytllpllebmknmpaa
open Go.RowKit

theorem cd_gcd {u v A B : Int} (h : Cd u v A B) (u0 : 0 ≤ u) (v0 : 0 ≤ v) (A0 : 0 ≤ A) (B0 : 0 ≤ B) : Nat.gcd u.toNat v.toNat = Nat.gcd A.toNat B.toNat := by
  have key : ∀ {p q r s : Int}, Cd p q r s → 0 ≤ p → 0 ≤ q → 0 ≤ r → 0 ≤ s → Nat.gcd p.toNat q.toNat ∣ Nat.gcd r.toNat s.toNat := by
    intro p q r s h p0 q0 r0 s0
    have h1 : ((Nat.gcd p.toNat q.toNat : Nat) : Int) ∣ p := by
      have := Int.natCast_dvd_natCast.2 (Nat.gcd_dvd_left p.toNat q.toNat)
      rwa [Int.toNat_of_nonneg p0] at this
    have h2 : ((Nat.gcd p.toNat q.toNat : Nat) : Int) ∣ q := by
      have := Int.natCast_dvd_natCast.2 (Nat.gcd_dvd_right p.toNat q.toNat)
      rwa [Int.toNat_of_nonneg q0] at this
    obtain ⟨h3, h4⟩ := (h _).1 ⟨h1, h2⟩
    refine Nat.dvd_gcd ?_ ?_
    · apply Int.natCast_dvd_natCast.1; rwa [Int.toNat_of_nonneg r0]
    · apply Int.natCast_dvd_natCast.1; rwa [Int.toNat_of_nonneg s0]
  exact Nat.dvd_antisymm (key h u0 v0 A0 B0) (key (fun d => (h d).symm) A0 B0 u0 v0)

set_option maxRecDepth 100000 in
set_option maxHeartbeats 8000000 in
theorem gcd_c (ao bo : Option Addr) (n m ca cb : Nat) (f h : Nat → Int) (w : World) (hn : n ≤ 8796093022207) (hm : m ≤ 8796093022207) (hr : Rd .u64 w ao n f) (hs : Rd .u64 w bo m h) (hf : Lm f n) (hh : Lm h m) (ff : Fm f n) (fh : Fm h m) :
    Calls Try.prog 74 #[.slice ao n ca, .slice bo m cb] w fun e w' => ∃ ao' k cap' f', e = .returned (.slice ao' k cap') ∧ Res (max n m + 1) w w' ao' k cap' f' ∧ vf f' k = (Nat.gcd (vf f n).toNat (vf h m).toNat : Nat) := by
  have CC := hid (cmp_c ao bo n m ca cb f h w (by omega) (by omega) hr hs hf hh ff fh)
  have HRa := hid hr; have HRb := hid hs; have HLa := hid hf; have HLb := hid hh; have HFa := hid ff; have HFb := hid fh
  clear hr hs hf hh ff fh
  by_cases hlt : vf f n < vf h m
  · skip
    have HLt := hid hlt
    clear hlt
    rcases (show n = 0 ∨ n = 1 ∨ 2 ≤ n by omega) with hb0 | hb1 | hb2
    · have hBz : vf f n = 0 := by rw [hb0]; rfl
      have HBz := hid hBz
      subst hb0
      clear hBz
      go_enter Try.func74, Try.ntmps74
      go_wp2_with fail
      refine CC.out.mono ?_
      rintro e w1 ⟨⟨q, rfl⟩, c, rfl, ho⟩
      have hc : c = -1 := by have := HLt.out; unfold Ord at ho; omega
      subst hc
      clear ho
      go_wp2_with fail
      refine (clone_c bo m cb h _ (by omega) (show Rd .u64 (w.drewN q) bo m h from HRb.out) HLb.out).mono ?_
      rintro e w9 ⟨xr, kr, cr, rfl, hres, hkr, hv⟩
      have HRS := hid hres; have HVr := hid hv
      clear hres hv
      go_wp2
      go_ret
      refine ⟨xr, kr, cr, h, rfl, (HRS.out.ahead (below_drewN (Below.refl w.heap.size w) q)).mono (by omega), ?_⟩
      rw [HVr.out, show vf h m = vf h m from rfl]
      rw [show vf f 0 = 0 from rfl]; rw [Nat.gcd_comm]; simp [Int.toNat_of_nonneg (vf_nonneg HLb.out)]
    · subst hb1
      obtain ⟨bb, ob, rfl⟩ := HRa.out.at (by omega)
      obtain ⟨x, hx⟩ : ∃ x, f 0 = x := ⟨_, rfl⟩
      have hcell : w.cell? ⟨bb, ob, none⟩ = some (.int .u64 x) := by rw [← hx]; exact HRa.out.cell (j := 0) (by omega)
      have hx01 := HLa.out 0 (by omega)
      have hx2 : x ≠ 0 := by rw [← hx]; rcases HFa.out with h | h; omega; exact h
      rw [hx] at hx01
      obtain ⟨xn, rfl⟩ := Int.eq_ofNat_of_zero_le hx01.1
      have HVB := hid (show vf f 1 = (xn : Int) by simp [vf, pw, hx])
      clear hx
      go_enter Try.func74, Try.ntmps74
      go_wp2_with fail
      refine CC.out.mono ?_
      rintro e w1 ⟨⟨q, rfl⟩, c, rfl, ho⟩
      have hc : c = -1 := by have := HLt.out; unfold Ord at ho; omega
      subst hc
      clear ho
      have hA0 := vf_nonneg HLb.out
      obtain ⟨R, hR⟩ : ∃ R : Nat, (vf h m % (xn : Int)) = R := ⟨(vf h m % (xn : Int)).toNat, by have := Int.emod_nonneg (vf h m) (show (xn : Int) ≠ 0 by omega); omega⟩
      have hR1 : (R : Int) < xn := by rw [← hR]; exact Int.emod_lt_of_pos _ (by omega)
      have cm := fun W hr' => modWord_c bo m cb h xn W (by omega) hr' HLb.out (by omega) (by omega)
      rw [hR] at cm
      have cg := fun W => gcdWord_c xn R W (by omega) (by omega)
      have hgl : Nat.gcd xn R < 18446744073709551616 := Nat.lt_of_le_of_lt (Nat.gcd_le_left _ (by omega)) (by omega)
      have hfin : Nat.gcd xn R = Nat.gcd (vf h m).toNat xn := by
        have e : R = (vf h m).toNat % xn := by
          have : ((vf h m).toNat : Int) = vf h m := Int.toNat_of_nonneg hA0
          have h2 : (((vf h m).toNat % xn : Nat) : Int) = vf h m % (xn : Int) := by rw [Int.natCast_emod, this]
          omega
        rw [e, Nat.gcd_comm (vf h m).toNat xn, Nat.gcd_rec xn (vf h m).toNat, Nat.gcd_comm]
      generalize Nat.gcd xn R = G at *
      have CM := hid cm; have CG := hid cg; have HFin := hid hfin; have HRd := hid (show Rd .u64 (w.drewN q) bo m h from HRb.out)
      clear cm cg hfin hR hA0
      go_wp2
      go_region_with (first | (go_at_call 80; refine (CM.out _ (by exact HRd.out)).mono ?_; rintro e w' ⟨rfl, q1, rfl⟩) | (go_at_call 79; refine (CG.out _).mono ?_; rintro e w' ⟨rfl, q2, rfl⟩) | (go_at_call 78; refine (fromWord_c G _ (by omega) (by omega)).mono ?_; rintro e w' ⟨xr, kr, cr, fr, rfl, hres, hv'⟩))
      all_goals
        go_wp2
        go_ret
        refine ⟨xr, kr, cr, fr, rfl, (hres.ahead (by repeat (first | exact (below_drewN (Below.refl w.heap.size w) q) | exact Below.refl _ _ | refine below_drewN ?_ _ | refine Below.drew ?_))).mono (by omega), ?_⟩
        rw [hv', HFin.out, HVB.out]
        rw [Int.toNat_natCast, Nat.gcd_comm]
    · have CA := hid (fun W (hW : Rd .u64 W bo m h) => clone_c bo m cb h W (by omega) hW HLb.out)
      have CB := hid (fun W (hW : Rd .u64 W ao n f) => clone_c ao n ca f W (by omega) hW HLa.out)
      have d1 : decide ((1 : Int) < (n : Int)) = true := by simp; omega
      go_enter Try.func74, Try.ntmps74
      go_wp2_with fail
      refine CC.out.mono ?_
      rintro e w1 ⟨⟨q, rfl⟩, c, rfl, ho⟩
      have hc : c = -1 := by have := HLt.out; unfold Ord at ho; omega
      subst hc
      clear ho
      go_wp2_with fail
      refine (CA.out _ (by exact HRb.out)).mono ?_
      rintro e w2 ⟨xa', ka, ca', rfl, hresa, hka, hva⟩
      have hRb2 := HRa.out.below (show Below w.heap.size w w2 from ⟨hresa.bel.os, hresa.bel.tape, hresa.bel.output, hresa.bel.size, hresa.bel.block⟩) (Nat.le_refl _)
      have RESA := hid hresa; have HVa := hid hva; have HRb2 := hid hRb2
      clear hresa hva hRb2 CA
      go_wp2_with fail
      refine (CB.out _ HRb2.out).mono ?_
      rintro e w3 ⟨xb', kb, cb', rfl, hresb, hkb, hvb⟩
      have hTwo : Two w.heap.size w3 xa' ka ca' xb' kb cb' (vf h m) (vf f n) := by
        have hz : w.heap.size ≤ w2.heap.size := RESA.out.bel.size
        have hBp : 0 < vf f n := by have := vf_form_ge HLa.out HFa.out (by omega); have := pw_pos (n - 1); omega
        have hle : vf f n ≤ vf h m := by have := HLt.out; omega
        rcases RESA.out.own with ⟨_, h0, _⟩ | ⟨ga, e1, e2, e3, e4, e5, e6⟩
        · have := HVa.out; rw [h0] at this; simp [vf] at this; omega
        · rcases hresb.own with ⟨_, h0, _⟩ | ⟨gb, f1, f2, f3, f4, f5, f6⟩
          · rw [h0] at hvb; simp [vf] at hvb; omega
          · refine ⟨ga, ⟨h, e1, e3, e4, by omega, by simpa using e2, e6.below hresb.bel e6.lt, RESA.out.lmc, RESA.out.fm, HVa.out⟩, by omega, hle, .inr ⟨gb, ?_, f, f1, f3, f4, by omega, by omega, f6, hresb.lmc, hresb.fm, hvb⟩⟩
            have := e6.lt; omega
      have hb3 : Below w.heap.size w w3 := (show Below w.heap.size w w2 from ⟨RESA.out.bel.os, RESA.out.bel.tape, RESA.out.bel.output, RESA.out.bel.size, RESA.out.bel.block⟩).trans (hresb.bel.mono RESA.out.bel.size)
      have CS := hid (shorten_c w.heap.size xa' xb' ka ca' kb cb' m (vf h m) (vf f n) w3 hTwo (vf_lt HLb.out) (by omega) hb3.size)
      have BE3 := hid hb3
      clear hTwo hb3 hresb hvb RESA HVa HRb2 CB d1
      go_wp2_with fail
      refine CS.out.mono ?_
      rintro e w4 ⟨y1, l1, d1, y2, l2, d2, A', B', rfl, hb4, hT, hC, hl2, hA'⟩
      obtain ⟨g1, ⟨P, rfl, o1, o2, o3, o4, hbP, lP, fP, vP⟩, B0, BA, h2⟩ := hT
      have BE4 := hid (BE3.out.trans hb4)
      have HCd := hid hC
      have hl1 : l1 ≤ m := by
        have := vf_lt HLb.out
        exact mid_len (lP.mono o2) fP (by rw [vP]; omega)
      have HP := hid (hbP.rd0 o2); have LP := hid (lP.mono o2); have VP := hid vP
      clear hb4 hC hbP lP fP vP CS
      have hgc : Hid (Nat.gcd A'.toNat B'.toNat = Nat.gcd (vf h m).toNat (vf f n).toNat) := cd_gcd HCd.out (by omega) B0 (vf_nonneg HLb.out) (vf_nonneg HLa.out)
      rcases h2 with ⟨rfl, rfl, rfl, rfl⟩ | ⟨g2, hne, Q, rfl, u1, u2, u3, u4, hbQ, lQ, fQ, vQ⟩
      · have hA0 : 0 ≤ A' := by omega
        clear B0 BA
        go_wp2_with fail
        refine (clone_c (some ⟨g1, 0, none⟩) l1 d1 P _ (by omega) HP.out LP.out).mono ?_
        rintro e w9 ⟨xr, kr, cr, rfl, hres, hkr, hv⟩
        have HRS := hid hres; have HVr := hid hv
        clear hres hv
        go_wp2
        go_ret
        refine ⟨xr, kr, cr, P, rfl, (HRS.out.ahead BE4.out).mono (by omega), ?_⟩
        rw [HVr.out, VP.out]
        rw [Nat.gcd_comm]; rw [← hgc.out]; simp [Int.toNat_of_nonneg hA0]
      · obtain rfl : l2 = 1 := by omega
        obtain ⟨x, hx⟩ : ∃ x, Q 0 = x := ⟨_, rfl⟩
        have hcell : w4.cell? ⟨g2, 0, none⟩ = some (.int .u64 x) := by rw [← hx]; exact hbQ.cell (j := 0) (by omega)
        have hx01 := lQ 0 (by omega)
        have hx2 : x ≠ 0 := by rw [← hx]; rcases fQ with h | h; omega; exact h
        rw [hx] at hx01
        obtain ⟨xn, rfl⟩ := Int.eq_ofNat_of_zero_le hx01.1
        have hvB : B' = (xn : Int) := by rw [← vQ]; simp [vf, pw, hx]
        subst hvB
        clear hx hbQ lQ fQ vQ B0 BA
        have hA0 := vf_nonneg LP.out
        obtain ⟨R, hR⟩ : ∃ R : Nat, (vf P l1 % (xn : Int)) = R := ⟨(vf P l1 % (xn : Int)).toNat, by have := Int.emod_nonneg (vf P l1) (show (xn : Int) ≠ 0 by omega); omega⟩
        have hR1 : (R : Int) < xn := by rw [← hR]; exact Int.emod_lt_of_pos _ (by omega)
        have cm := fun W hr' => modWord_c (some ⟨g1, 0, none⟩) l1 d1 P xn W (by omega) hr' LP.out (by omega) (by omega)
        rw [hR] at cm
        have cg := fun W => gcdWord_c xn R W (by omega) (by omega)
        have hgl : Nat.gcd xn R < 18446744073709551616 := Nat.lt_of_le_of_lt (Nat.gcd_le_left _ (by omega)) (by omega)
        have hfin : Nat.gcd xn R = Nat.gcd (vf P l1).toNat xn := by
          have e : R = (vf P l1).toNat % xn := by
            have : ((vf P l1).toNat : Int) = vf P l1 := Int.toNat_of_nonneg hA0
            have h2 : (((vf P l1).toNat % xn : Nat) : Int) = vf P l1 % (xn : Int) := by rw [Int.natCast_emod, this]
            omega
          rw [e, Nat.gcd_comm (vf P l1).toNat xn, Nat.gcd_rec xn (vf P l1).toNat, Nat.gcd_comm]
        generalize Nat.gcd xn R = G at *
        have CM := hid cm; have CG := hid cg; have HFin := hid hfin; have HRd := hid HP.out
        clear cm cg hfin hR hA0
        go_wp2
        go_region_with (first | (go_at_call 80; refine (CM.out _ (by exact HRd.out)).mono ?_; rintro e w' ⟨rfl, q1, rfl⟩) | (go_at_call 79; refine (CG.out _).mono ?_; rintro e w' ⟨rfl, q2, rfl⟩) | (go_at_call 78; refine (fromWord_c G _ (by omega) (by omega)).mono ?_; rintro e w' ⟨xr, kr, cr, fr, rfl, hres, hv'⟩))
        all_goals
          go_wp2
          go_ret
          refine ⟨xr, kr, cr, fr, rfl, (hres.ahead (by repeat (first | exact BE4.out | exact Below.refl _ _ | refine below_drewN ?_ _ | refine Below.drew ?_))).mono (by omega), ?_⟩
          rw [hv', HFin.out, VP.out]
          rw [Nat.gcd_comm (vf f n).toNat, ← hgc.out, Int.toNat_natCast]
  · skip
    have HLt := hid hlt
    clear hlt
    rcases (show m = 0 ∨ m = 1 ∨ 2 ≤ m by omega) with hb0 | hb1 | hb2
    · have hBz : vf h m = 0 := by rw [hb0]; rfl
      have HBz := hid hBz
      subst hb0
      clear hBz
      go_enter Try.func74, Try.ntmps74
      go_wp2_with fail
      refine CC.out.mono ?_
      rintro e w1 ⟨⟨q, rfl⟩, c, rfl, ho⟩
      have hc : 0 ≤ c := by have := HLt.out; unfold Ord at ho; omega
      clear ho
      go_wp2_with fail
      refine (clone_c ao n ca f _ (by omega) (show Rd .u64 (w.drewN q) ao n f from HRa.out) HLa.out).mono ?_
      rintro e w9 ⟨xr, kr, cr, rfl, hres, hkr, hv⟩
      have HRS := hid hres; have HVr := hid hv
      clear hres hv
      go_wp2
      go_ret
      refine ⟨xr, kr, cr, f, rfl, (HRS.out.ahead (below_drewN (Below.refl w.heap.size w) q)).mono (by omega), ?_⟩
      rw [HVr.out, show vf f n = vf f n from rfl]
      rw [show vf h 0 = 0 from rfl]; simp [Int.toNat_of_nonneg (vf_nonneg HLa.out)]
    · subst hb1
      obtain ⟨bb, ob, rfl⟩ := HRb.out.at (by omega)
      obtain ⟨x, hx⟩ : ∃ x, h 0 = x := ⟨_, rfl⟩
      have hcell : w.cell? ⟨bb, ob, none⟩ = some (.int .u64 x) := by rw [← hx]; exact HRb.out.cell (j := 0) (by omega)
      have hx01 := HLb.out 0 (by omega)
      have hx2 : x ≠ 0 := by rw [← hx]; rcases HFb.out with h | h; omega; exact h
      rw [hx] at hx01
      obtain ⟨xn, rfl⟩ := Int.eq_ofNat_of_zero_le hx01.1
      have HVB := hid (show vf h 1 = (xn : Int) by simp [vf, pw, hx])
      clear hx
      go_enter Try.func74, Try.ntmps74
      go_wp2_with fail
      refine CC.out.mono ?_
      rintro e w1 ⟨⟨q, rfl⟩, c, rfl, ho⟩
      have hc : 0 ≤ c := by have := HLt.out; unfold Ord at ho; omega
      clear ho
      have hA0 := vf_nonneg HLa.out
      obtain ⟨R, hR⟩ : ∃ R : Nat, (vf f n % (xn : Int)) = R := ⟨(vf f n % (xn : Int)).toNat, by have := Int.emod_nonneg (vf f n) (show (xn : Int) ≠ 0 by omega); omega⟩
      have hR1 : (R : Int) < xn := by rw [← hR]; exact Int.emod_lt_of_pos _ (by omega)
      have cm := fun W hr' => modWord_c ao n ca f xn W (by omega) hr' HLa.out (by omega) (by omega)
      rw [hR] at cm
      have cg := fun W => gcdWord_c xn R W (by omega) (by omega)
      have hgl : Nat.gcd xn R < 18446744073709551616 := Nat.lt_of_le_of_lt (Nat.gcd_le_left _ (by omega)) (by omega)
      have hfin : Nat.gcd xn R = Nat.gcd (vf f n).toNat xn := by
        have e : R = (vf f n).toNat % xn := by
          have : ((vf f n).toNat : Int) = vf f n := Int.toNat_of_nonneg hA0
          have h2 : (((vf f n).toNat % xn : Nat) : Int) = vf f n % (xn : Int) := by rw [Int.natCast_emod, this]
          omega
        rw [e, Nat.gcd_comm (vf f n).toNat xn, Nat.gcd_rec xn (vf f n).toNat, Nat.gcd_comm]
      generalize Nat.gcd xn R = G at *
      have CM := hid cm; have CG := hid cg; have HFin := hid hfin; have HRd := hid (show Rd .u64 (w.drewN q) ao n f from HRa.out)
      clear cm cg hfin hR hA0
      go_wp2
      go_region_with (first | (go_at_call 80; refine (CM.out _ (by exact HRd.out)).mono ?_; rintro e w' ⟨rfl, q1, rfl⟩) | (go_at_call 79; refine (CG.out _).mono ?_; rintro e w' ⟨rfl, q2, rfl⟩) | (go_at_call 78; refine (fromWord_c G _ (by omega) (by omega)).mono ?_; rintro e w' ⟨xr, kr, cr, fr, rfl, hres, hv'⟩))
      all_goals
        go_wp2
        go_ret
        refine ⟨xr, kr, cr, fr, rfl, (hres.ahead (by repeat (first | exact (below_drewN (Below.refl w.heap.size w) q) | exact Below.refl _ _ | refine below_drewN ?_ _ | refine Below.drew ?_))).mono (by omega), ?_⟩
        rw [hv', HFin.out, HVB.out]
        rw [Int.toNat_natCast]
    · have CA := hid (fun W (hW : Rd .u64 W ao n f) => clone_c ao n ca f W (by omega) hW HLa.out)
      have CB := hid (fun W (hW : Rd .u64 W bo m h) => clone_c bo m cb h W (by omega) hW HLb.out)
      have d1 : decide ((1 : Int) < (m : Int)) = true := by simp; omega
      go_enter Try.func74, Try.ntmps74
      go_wp2_with fail
      refine CC.out.mono ?_
      rintro e w1 ⟨⟨q, rfl⟩, c, rfl, ho⟩
      have hc : 0 ≤ c := by have := HLt.out; unfold Ord at ho; omega
      clear ho
      go_wp2_with fail
      refine (CA.out _ (by exact HRa.out)).mono ?_
      rintro e w2 ⟨xa', ka, ca', rfl, hresa, hka, hva⟩
      have hRb2 := HRb.out.below (show Below w.heap.size w w2 from ⟨hresa.bel.os, hresa.bel.tape, hresa.bel.output, hresa.bel.size, hresa.bel.block⟩) (Nat.le_refl _)
      have RESA := hid hresa; have HVa := hid hva; have HRb2 := hid hRb2
      clear hresa hva hRb2 CA
      go_wp2_with fail
      refine (CB.out _ HRb2.out).mono ?_
      rintro e w3 ⟨xb', kb, cb', rfl, hresb, hkb, hvb⟩
      have hTwo : Two w.heap.size w3 xa' ka ca' xb' kb cb' (vf f n) (vf h m) := by
        have hz : w.heap.size ≤ w2.heap.size := RESA.out.bel.size
        have hBp : 0 < vf h m := by have := vf_form_ge HLb.out HFb.out (by omega); have := pw_pos (m - 1); omega
        have hle : vf h m ≤ vf f n := by have := HLt.out; omega
        rcases RESA.out.own with ⟨_, h0, _⟩ | ⟨ga, e1, e2, e3, e4, e5, e6⟩
        · have := HVa.out; rw [h0] at this; simp [vf] at this; omega
        · rcases hresb.own with ⟨_, h0, _⟩ | ⟨gb, f1, f2, f3, f4, f5, f6⟩
          · rw [h0] at hvb; simp [vf] at hvb; omega
          · refine ⟨ga, ⟨f, e1, e3, e4, by omega, by simpa using e2, e6.below hresb.bel e6.lt, RESA.out.lmc, RESA.out.fm, HVa.out⟩, by omega, hle, .inr ⟨gb, ?_, h, f1, f3, f4, by omega, by omega, f6, hresb.lmc, hresb.fm, hvb⟩⟩
            have := e6.lt; omega
      have hb3 : Below w.heap.size w w3 := (show Below w.heap.size w w2 from ⟨RESA.out.bel.os, RESA.out.bel.tape, RESA.out.bel.output, RESA.out.bel.size, RESA.out.bel.block⟩).trans (hresb.bel.mono RESA.out.bel.size)
      have CS := hid (shorten_c w.heap.size xa' xb' ka ca' kb cb' n (vf f n) (vf h m) w3 hTwo (vf_lt HLa.out) (by omega) hb3.size)
      have BE3 := hid hb3
      clear hTwo hb3 hresb hvb RESA HVa HRb2 CB d1
      go_wp2_with fail
      refine CS.out.mono ?_
      rintro e w4 ⟨y1, l1, d1, y2, l2, d2, A', B', rfl, hb4, hT, hC, hl2, hA'⟩
      obtain ⟨g1, ⟨P, rfl, o1, o2, o3, o4, hbP, lP, fP, vP⟩, B0, BA, h2⟩ := hT
      have BE4 := hid (BE3.out.trans hb4)
      have HCd := hid hC
      have hl1 : l1 ≤ n := by
        have := vf_lt HLa.out
        exact mid_len (lP.mono o2) fP (by rw [vP]; omega)
      have HP := hid (hbP.rd0 o2); have LP := hid (lP.mono o2); have VP := hid vP
      clear hb4 hC hbP lP fP vP CS
      have hgc : Hid (Nat.gcd A'.toNat B'.toNat = Nat.gcd (vf f n).toNat (vf h m).toNat) := cd_gcd HCd.out (by omega) B0 (vf_nonneg HLa.out) (vf_nonneg HLb.out)
      rcases h2 with ⟨rfl, rfl, rfl, rfl⟩ | ⟨g2, hne, Q, rfl, u1, u2, u3, u4, hbQ, lQ, fQ, vQ⟩
      · have hA0 : 0 ≤ A' := by omega
        clear B0 BA
        go_wp2_with fail
        refine (clone_c (some ⟨g1, 0, none⟩) l1 d1 P _ (by omega) HP.out LP.out).mono ?_
        rintro e w9 ⟨xr, kr, cr, rfl, hres, hkr, hv⟩
        have HRS := hid hres; have HVr := hid hv
        clear hres hv
        go_wp2
        go_ret
        refine ⟨xr, kr, cr, P, rfl, (HRS.out.ahead BE4.out).mono (by omega), ?_⟩
        rw [HVr.out, VP.out]
        rw [← hgc.out]; simp [Int.toNat_of_nonneg hA0]
      · obtain rfl : l2 = 1 := by omega
        obtain ⟨x, hx⟩ : ∃ x, Q 0 = x := ⟨_, rfl⟩
        have hcell : w4.cell? ⟨g2, 0, none⟩ = some (.int .u64 x) := by rw [← hx]; exact hbQ.cell (j := 0) (by omega)
        have hx01 := lQ 0 (by omega)
        have hx2 : x ≠ 0 := by rw [← hx]; rcases fQ with h | h; omega; exact h
        rw [hx] at hx01
        obtain ⟨xn, rfl⟩ := Int.eq_ofNat_of_zero_le hx01.1
        have hvB : B' = (xn : Int) := by rw [← vQ]; simp [vf, pw, hx]
        subst hvB
        clear hx hbQ lQ fQ vQ B0 BA
        have hA0 := vf_nonneg LP.out
        obtain ⟨R, hR⟩ : ∃ R : Nat, (vf P l1 % (xn : Int)) = R := ⟨(vf P l1 % (xn : Int)).toNat, by have := Int.emod_nonneg (vf P l1) (show (xn : Int) ≠ 0 by omega); omega⟩
        have hR1 : (R : Int) < xn := by rw [← hR]; exact Int.emod_lt_of_pos _ (by omega)
        have cm := fun W hr' => modWord_c (some ⟨g1, 0, none⟩) l1 d1 P xn W (by omega) hr' LP.out (by omega) (by omega)
        rw [hR] at cm
        have cg := fun W => gcdWord_c xn R W (by omega) (by omega)
        have hgl : Nat.gcd xn R < 18446744073709551616 := Nat.lt_of_le_of_lt (Nat.gcd_le_left _ (by omega)) (by omega)
        have hfin : Nat.gcd xn R = Nat.gcd (vf P l1).toNat xn := by
          have e : R = (vf P l1).toNat % xn := by
            have : ((vf P l1).toNat : Int) = vf P l1 := Int.toNat_of_nonneg hA0
            have h2 : (((vf P l1).toNat % xn : Nat) : Int) = vf P l1 % (xn : Int) := by rw [Int.natCast_emod, this]
            omega
          rw [e, Nat.gcd_comm (vf P l1).toNat xn, Nat.gcd_rec xn (vf P l1).toNat, Nat.gcd_comm]
        generalize Nat.gcd xn R = G at *
        have CM := hid cm; have CG := hid cg; have HFin := hid hfin; have HRd := hid HP.out
        clear cm cg hfin hR hA0
        go_wp2
        go_region_with (first | (go_at_call 80; refine (CM.out _ (by exact HRd.out)).mono ?_; rintro e w' ⟨rfl, q1, rfl⟩) | (go_at_call 79; refine (CG.out _).mono ?_; rintro e w' ⟨rfl, q2, rfl⟩) | (go_at_call 78; refine (fromWord_c G _ (by omega) (by omega)).mono ?_; rintro e w' ⟨xr, kr, cr, fr, rfl, hres, hv'⟩))
        all_goals
          go_wp2
          go_ret
          refine ⟨xr, kr, cr, fr, rfl, (hres.ahead (by repeat (first | exact BE4.out | exact Below.refl _ _ | refine below_drewN ?_ _ | refine Below.drew ?_))).mono (by omega), ?_⟩
          rw [hv', HFin.out, VP.out]
          rw [← hgc.out, Int.toNat_natCast]
end Go.Proofs.Ytllpllebmknmpaa
namespace Go.Proofs.Ytllpllebmknmpaa
open Go.RowKit

set_option maxHeartbeats 800000 in
theorem Gcd_c (ao bo : Option Addr) (n m ca cb : Nat) (f h : Nat → Int) (w : World) (hn : n ≤ 8796093022207) (hm : m ≤ 8796093022207) (hr : Rd .u64 w ao n f) (hs : Rd .u64 w bo m h) (hf : Lm f n) (hh : Lm h m) :
    Calls Try.prog 73 #[.slice ao n ca, .slice bo m cb] w fun e w' => ∃ ao' k cap' f' er, e = .returned (.tuple #[.slice ao' k cap', .int .i64 er]) ∧ Res (max n m + 1) w w' ao' k cap' f' ∧
      (Fm f n ∧ Fm h m ∧ er = 0 ∧ vf f' k = (Nat.gcd (vf f n).toNat (vf h m).toNat : Nat) ∨ ¬ (Fm f n ∧ Fm h m) ∧ er = 3 ∧ k = 0) := by
  have HF := (show Hid (Lm f n) from hf)
  have HH := (show Hid (Lm h m) from hh)
  clear hf hh
  cases hfa : fmB f n
  · have c1 := fun w' hr' => form_c ao n ca f w' (by omega) hr'
    rw [hfa] at c1
    have HN := hid (nfm_of hfa)
    have C1 := hid c1
    clear c1 hfa
    go_enter Try.func73, Try.ntmps73
    go_wp2_with (go_at_call 63; refine (C1.out _ hr).mono ?_; rintro e w' ⟨rfl, rfl⟩)
    go_ret2
    exact ⟨_, _, _, f, _, rfl, Res.nil f (Below.refl _ _), .inr ⟨fun x => HN.out x.1, rfl, rfl⟩⟩
  · have c1 := fun w' hr' => form_c ao n ca f w' (by omega) hr'
    rw [hfa] at c1
    have FA := hid (fm_of hfa)
    have C1 := hid c1
    clear c1 hfa
    cases hfb : fmB h m
    · have c2 := fun w' hr' => form_c bo m cb h w' (by omega) hr'
      rw [hfb] at c2
      have HN := hid (nfm_of hfb)
      have C2 := hid c2
      clear c2 hfb
      go_enter Try.func73, Try.ntmps73
      go_wp2_with fail
      refine (C1.out _ hr).mono ?_
      rintro e w' ⟨rfl, rfl⟩
      go_wp2_with fail
      refine (C2.out _ hs).mono ?_
      rintro e w' ⟨rfl, rfl⟩
      go_wp2
      go_ret2
      exact ⟨_, _, _, f, _, rfl, Res.nil f (Below.refl _ _), .inr ⟨fun x => HN.out x.2, rfl, rfl⟩⟩
    · have c2 := fun w' hr' => form_c bo m cb h w' (by omega) hr'
      rw [hfb] at c2
      have FB := hid (fm_of hfb)
      have C2 := hid c2
      clear c2 hfb
      go_enter Try.func73, Try.ntmps73
      go_wp2_with fail
      refine (C1.out _ hr).mono ?_
      rintro e w' ⟨rfl, rfl⟩
      go_wp2_with fail
      refine (C2.out _ hs).mono ?_
      rintro e w' ⟨rfl, rfl⟩
      go_wp2_with fail
      refine (gcd_c ao bo n m ca cb f h _ hn hm hr hs HF.out HH.out FA.out FB.out).mono ?_
      rintro e w' ⟨ao', k, cap', f', rfl, hres, hv⟩
      have HV := hid hv
      clear hv
      go_wp2
      go_ret2
      exact ⟨_, _, _, f', _, rfl, hres, .inl ⟨FA.out, FB.out, rfl, HV.out⟩⟩
end Go.Proofs.Ytllpllebmknmpaa
namespace Go.Proofs.Ytllpllebmknmpaa
open Go.RowKit

theorem Wn.fm {w s x n c f v} (h : Wn w s x n c f v) : Fm f n := fm_of_wfB h.wf
theorem Wn.nv {w x n c f v} (h : Wn w false x n c f v) : vf f n = v := h.val
theorem Wn.pos {w x n c f v} (h : Wn w false x n c f v) (hv : 0 < v) : 0 < n := by
  rcases Nat.eq_zero_or_pos n with h0 | h0
  · subst h0; have : (0 : Int) = v := h.nv; omega
  · exact h0
theorem one_iff {f : Nat → Int} {n : Nat} {A : Int} (hl : Lm f n) (hf : Fm f n) (hv : vf f n = A) : A = 1 ↔ n = 1 ∧ f 0 = 1 := by
  have v1 : vf f 1 = f 0 := by simp [vf, pw]
  constructor
  · intro h
    have h0 : n ≠ 0 := fun h0 => by subst h0; simp [vf] at hv; omega
    have h1 := vf_form_ge hl hf (by omega)
    have hn : n = 1 := by
      rcases Nat.lt_or_ge 1 n with h2 | h2
      · have h3 := pw_mono (show 1 ≤ n - 1 by omega)
        have : pw 1 = 18446744073709551616 := by simp [pw]
        omega
      · omega
    subst hn
    exact ⟨rfl, by rw [← v1, hv, h]⟩
  · rintro ⟨rfl, h⟩
    rw [← hv, v1, h]
theorem isOne_c {w : World} {x n c f} {A : Int} (ha : Wn w false x n c f A) :
    Calls Try.prog 64 #[.slice x n c] w fun e w' => e = .returned (.bool (decide (A = 1))) ∧ w' = w := by
  have hi := one_iff ha.lm ha.fm ha.nv
  have hr := ha.rd
  have hn : n ≤ 9223372036854775807 := by have := ha.cap; omega
  by_cases h1 : n = 1
  · subst h1
    obtain ⟨b, o, rfl⟩ := hr.at (by omega)
    obtain ⟨y, hy⟩ : ∃ y, f 0 = y := ⟨_, rfl⟩
    have hc : w.cell? ⟨b, o, none⟩ = some (.int .u64 y) := by rw [← hy]; exact hr.cell (j := 0) (by omega)
    have e : decide (A = 1) = (y == 1) := by
      rw [hy] at hi
      by_cases h : y = 1 <;> simp_all
    have E := hid e
    clear hr hy e hi ha
    go_enter Try.func64, Try.ntmps64
    go_wp2
    go_ret
    exact ⟨by rw [E.out]; rfl, rfl⟩
  · have h1' : ((n : Int) == 1) = false := by simp; omega
    have e : decide (A = 1) = false := by simp; intro h; exact h1 (hi.1 h).1
    have E := hid e
    clear hr e hi ha
    go_enter Try.func64, Try.ntmps64
    go_wp2
    go_ret
    exact ⟨by rw [E.out]; rfl, rfl⟩
/-- A new list of the number 1. -/
theorem ratOne_c (w : World) :
    Calls Try.prog 72 #[] w fun e w' => ∃ x f, e = .returned (.slice x 1 1) ∧ Below w.heap.size w w' ∧ Wn w' false x 1 1 f 1 := by
  go_enter Try.func72, Try.ntmps72
  go_wp2
  go_ret
  refine ⟨_, fun _ => 1, rfl, ?_, ?_⟩
  · exact below_alloc (Below.refl _ _) _
  · refine ⟨Rd.mk (fun j hj => ?_), fun j _ => by simp, ?_, by omega, (fun h => by cases h), ?_⟩
    · have : j = 0 := by omega
      subst this
      simp [go_sem]
    · decide
    · simp [wv, vf, pw]
theorem gcd_n {w : World} {x n c f y m d g} {A B : Nat} (ha : Wn w false x n c f A) (hb : Wn w false y m d g B) (hn : n ≤ 1048576) (hm : m ≤ 1048576) :
    Calls Try.prog 73 #[.slice x n c, .slice y m d] w fun e w' => ∃ z k e' h, e = .returned (.tuple #[.slice z k e', .int .i64 0]) ∧ Below w.heap.size w w' ∧ Wn w' false z k e' h (A.gcd B : Nat) := by
  refine (Gcd_c x y n m c d f g w (by omega) (by omega) ha.rd hb.rd ha.lm hb.lm).mono ?_
  rintro e w' ⟨z, k, e', h, er, rfl, hres, hv⟩
  have hr := hres.ans (by omega)
  rcases hv with ⟨_, _, rfl, hv⟩ | ⟨h1, _⟩
  · refine ⟨z, k, e', h, rfl, hr.bel, hr.rd, hr.lm, (wfB_iff _ _ _).2 ⟨hr.fm, fun h => by cases h⟩, hr.ncap, hr.nil', ?_⟩
    show vf h k = _
    rw [hv, ha.nv, hb.nv]; simp
  · exact absurd ⟨ha.fm, hb.fm⟩ h1
set_option maxHeartbeats 800000 in
theorem ratGcd_c {w : World} {x n c f y m d g} {A B : Nat} (ha : Wn w false x n c f A) (hb : Wn w false y m d g B) (hn : n ≤ 1048576) (hm : m ≤ 1048576) :
    Calls Try.prog 65 #[.slice x n c, .slice y m d] w fun e w' => ∃ z k e' h, e = .returned (.slice z k e') ∧ Below w.heap.size w w' ∧ Wn w' false z k e' h (A.gcd B : Nat) := by
  have C1 := hid (isOne_c ha); have C2 := hid (isOne_c hb); have C3 := hid (gcd_n ha hb hn hm)
  by_cases h1 : A = 1
  · have e1 : decide ((A : Int) = 1) = true := by simp [h1]
    have e2 : A.gcd B = 1 := by rw [h1]; simp
    rw [e2]
    rw [e1] at C1
    clear ha hb e1 e2 h1 C2 C3
    go_enter Try.func65, Try.ntmps65
    go_wp2_with fail
    refine C1.out.mono ?_
    rintro e w1 ⟨rfl, rfl⟩
    go_wp2_with fail
    refine (ratOne_c _).mono ?_
    rintro e w2 ⟨z, h, rfl, h1, h2⟩
    go_wp2
    go_ret
    exact ⟨z, 1, 1, h, rfl, h1, h2⟩
  · have e1 : decide ((A : Int) = 1) = false := by simp; omega
    rw [e1] at C1
    by_cases h2 : B = 1
    · have e1 : decide ((B : Int) = 1) = true := by simp [h2]
      have e2 : A.gcd B = 1 := by rw [h2]; simp
      rw [e2]
      rw [e1] at C2
      clear ha hb e1 e2 h1 C3
      go_enter Try.func65, Try.ntmps65
      go_wp2_with fail
      refine C1.out.mono ?_
      rintro e w1 ⟨rfl, rfl⟩
      go_wp2_with fail
      refine C2.out.mono ?_
      rintro e w1 ⟨rfl, rfl⟩
      go_wp2_with fail
      refine (ratOne_c _).mono ?_
      rintro e w2 ⟨z, h, rfl, h1, h2⟩
      go_wp2
      go_ret
      exact ⟨z, 1, 1, h, rfl, h1, h2⟩
    · have e1 : decide ((B : Int) = 1) = false := by simp; omega
      rw [e1] at C2
      clear ha hb e1 h1
      go_enter Try.func65, Try.ntmps65
      go_wp2_with fail
      refine C1.out.mono ?_
      rintro e w1 ⟨rfl, rfl⟩
      go_wp2_with fail
      refine C2.out.mono ?_
      rintro e w1 ⟨rfl, rfl⟩
      go_wp2_with fail
      refine C3.out.mono ?_
      rintro e w2 ⟨z, k, e', h, rfl, h1, h2⟩
      have H2 := hid h2
      clear h2
      go_wp2
      go_ret
      exact ⟨z, k, e', h, rfl, h1, H2.out⟩
theorem numer_c (s : Bool) (x y : Option Addr) (n c m d : Nat) (w : World) :
    Calls Try.prog 62 #[.agg #[.bool s, .slice x n c, .slice y m d]] w fun e w' => e = .returned (.agg #[.bool s, .slice x n c]) ∧ Below w.heap.size w w' := by
  go_enter Try.func62, Try.ntmps62
  go_wp2
  refine bodyPost_ret (v := .agg #[.bool s, .slice x n c]) (by simp [results, Try.results62, go_sem]) rfl ⟨rfl, ?_⟩
  exact below_alloc (below_alloc (Below.refl w.heap.size w) _) _
end Go.Proofs.Ytllpllebmknmpaa
namespace Go.Proofs.Ytllpllebmknmpaa
open Go.RowKit

/-- A rational number in form that can be read, of at most L limbs above and below. -/
structure Rn (L : Nat) (w : World) (s : Bool) (x : Option Addr) (n c : Nat) (f : Nat → Int) (y : Option Addr) (m d : Nat) (g : Nat → Int) (q : Rat) : Prop where
  num : Wn w s x n c f q.num
  den : Wn w false y m d g (q.den : Int)
  ln : n ≤ L
  ld : m ≤ L
theorem Rn.below {L w w' s x n c f y m d g q} (h : Rn L w s x n c f y m d g q) (hb : Below w.heap.size w w') : Rn L w' s x n c f y m d g q := ⟨h.num.below hb, h.den.below hb, h.ln, h.ld⟩
theorem Rn.alloc {L w s x n c f y m d g q} (h : Rn L w s x n c f y m d g q) (o : Obj) : Rn L (w.alloc o) s x n c f y m d g q := ⟨h.num.alloc o, h.den.alloc o, h.ln, h.ld⟩
theorem Rn.mono {L L' w s x n c f y m d g q} (h : Rn L w s x n c f y m d g q) (hL : L ≤ L') : Rn L' w s x n c f y m d g q := ⟨h.num, h.den, Nat.le_trans h.ln hL, Nat.le_trans h.ld hL⟩
theorem Wn.mag {w s x n c f v} (h : Wn w s x n c f v) : Wn w false x n c f (v.natAbs : Nat) := by
  refine ⟨h.rd, h.lm, (wfB_iff _ _ _).2 ⟨h.fm, fun h => by cases h⟩, h.cap, h.nil, ?_⟩
  have h0 := vf_nonneg h.lm
  have hv := h.val
  show vf f n = _
  cases s
  · rw [wv_false] at hv; omega
  · rw [wv_true] at hv; omega
theorem Wn.sgn {w s x n c f v} (h : Wn w s x n c f v) : v = sg s v.natAbs := by
  have h0 := vf_nonneg h.lm
  have hv := h.val
  cases s
  · rw [wv_false] at hv; show v = (v.natAbs : Int); omega
  · rw [wv_true] at hv; show v = -(v.natAbs : Int); omega
/-- A rational number that a call answers. -/
def RatAns (L : Nat) (w w' : World) (e : Ending) (q : Rat) : Prop := ∃ s x n c f y m d g, e = .returned (.agg #[.bool s, .slice x n c, .slice y m d]) ∧ Below w.heap.size w w' ∧ Rn L w' s x n c f y m d g q
theorem kIb {w w' : World} {a : Addr} (hb : Below w.heap.size w w') (h : (w.cell? a).isSome = true) : (w'.cell? a).isSome = true := by
  obtain ⟨u, hu⟩ := Option.isSome_iff_exists.1 h
  rw [kCb hb hu]; rfl
theorem cell_off {w : World} {b i j : Nat} {u v : Value} (hij : i ≠ j) (h : w.cell? ⟨b, j, none⟩ = some u) : (w.setCell ⟨b, i, none⟩ v).cell? ⟨b, j, none⟩ = some u := by
  rw [World.cell?_setCell_other _ _ _ _ (fun he => hij (congrArg Addr.off he))]; exact h
theorem Wn.set {w : World} {p : Addr} {v u : Value} {s x n c f z} (hp : w.cell? p = some v) (hv : ∀ i, v ≠ .int .u64 i) (h : Wn w s x n c f z) : Wn (w.setCell p u) s x n c f z := by
  refine ⟨fun j hj => ?_, h.lm, h.wf, h.cap, h.nil, h.val⟩
  obtain ⟨b, o, hx, hc⟩ := h.rd j hj
  refine ⟨b, o, hx, ?_⟩
  rw [World.cell?_setCell_other _ _ _ _ (fun he => hv _ (Option.some.inj (hp.symm.trans (he ▸ hc))))]
  exact hc
end Go.Proofs.Ytllpllebmknmpaa
namespace Go.Proofs.Ytllpllebmknmpaa
open Go.RowKit

end Go.Proofs.Ytllpllebmknmpaa
namespace Go.Proofs.Ytllpllebmknmpaa
open Go.RowKit

/-- Two lists of limbs that can be read: numerator and denominator, in form or not. -/
structure Rw (w : World) (x : Option Addr) (n c : Nat) (f : Nat → Int) (y : Option Addr) (m d : Nat) (g : Nat → Int) : Prop where
  rx : Rd .u64 w x n f
  lx : Lm f n
  cx : n ≤ c ∧ c ≤ 9223372036854775807
  nx : x = none → n = 0 ∧ c = 0
  ry : Rd .u64 w y m g
  ly : Lm g m
  cy : m ≤ d ∧ d ≤ 9223372036854775807
  ny : y = none → m = 0 ∧ d = 0
theorem Rw.below {w w' x n c f y m d g} (h : Rw w x n c f y m d g) (hb : Below w.heap.size w w') : Rw w' x n c f y m d g := ⟨h.rx.below hb (Nat.le_refl _), h.lx, h.cx, h.nx, h.ry.below hb (Nat.le_refl _), h.ly, h.cy, h.ny⟩
theorem Rw.alloc {w x n c f y m d g} (h : Rw w x n c f y m d g) (o : Obj) : Rw (w.alloc o) x n c f y m d g := h.below (below_alloc (Below.refl _ _) o)
/-- In form: sign, limbs, and nothing in common. -/
def rfB (s : Bool) (f : Nat → Int) (n : Nat) (g : Nat → Int) (m : Nat) : Bool := wfB s f n && (fmB g m && (decide (0 < m) && decide ((vf f n).toNat.gcd (vf g m).toNat = 1)))
theorem natAbs_wv {s : Bool} {f : Nat → Int} {n : Nat} (h : Lm f n) : (wv s f n).natAbs = (vf f n).toNat := by
  have h0 := vf_nonneg h
  cases s
  · rw [wv_false]; omega
  · rw [wv_true]; omega
/-- What is in form is a number. -/
theorem Rw.rn {w s x n c f y m d g L} (h : Rw w x n c f y m d g) (hf : rfB s f n g m = true) (hn : n ≤ L) (hm : m ≤ L) : ∃ q, Rn L w s x n c f y m d g q := by
  simp only [rfB, Bool.and_eq_true, decide_eq_true_eq] at hf
  obtain ⟨h1, h2, h3, h4⟩ := hf
  have hp := vf_pos h.ly (fm_of h2) h3
  refine ⟨⟨wv s f n, (vf g m).toNat, by omega, by rw [natAbs_wv h.lx]; exact h4⟩, ⟨h.rx, h.lx, h1, h.cx, h.nx, rfl⟩, ⟨h.ry, h.ly, (wfB_iff _ _ _).2 ⟨fm_of h2, fun h => by cases h⟩, h.cy, h.ny, ?_⟩, hn, hm⟩
  show vf g m = ((vf g m).toNat : Int)
  omega
theorem Rn.rw {L w s x n c f y m d g q} (h : Rn L w s x n c f y m d g q) : Rw w x n c f y m d g := ⟨h.num.rd, h.num.lm, h.num.cap, h.num.nil, h.den.rd, h.den.lm, h.den.cap, h.den.nil⟩
theorem Rn.rf {L w s x n c f y m d g q} (h : Rn L w s x n c f y m d g q) : rfB s f n g m = true := by
  simp only [rfB, Bool.and_eq_true, decide_eq_true_eq]
  have hd := q.den_pos
  refine ⟨h.num.wf, (fmB_iff _ _).2 h.den.fm, h.den.pos (by omega), ?_⟩
  rw [← natAbs_wv (s := s) h.num.lm, h.num.val, h.den.nv]
  exact q.reduced
theorem Rn.inj {L L' w w' s t x n c f y m d g x' n' c' f' y' m' d' g' q r} (h : Rn L w s x n c f y m d g q) (h' : Rn L' w' t x' n' c' f' y' m' d' g' r) : (s = t ∧ Alk n n' f f' ∧ Alk m m' g g') ↔ q = r := by
  constructor
  · rintro ⟨rfl, ⟨rfl, h1⟩, ⟨rfl, h2⟩⟩
    have e1 : vf f n = vf f' n := vf_congr h1
    have e2 : vf g m = vf g' m := vf_congr h2
    refine Rat.ext ?_ ?_
    · rw [← h.num.val, ← h'.num.val]
      cases s
      · rw [wv_false, wv_false, e1]
      · rw [wv_true, wv_true, e1]
    · have := h.den.nv; have := h'.den.nv; omega
  · rintro rfl
    have ha := vf_nonneg h.num.lm; have hb := vf_nonneg h'.num.lm
    have e2 := vf_inj h.den.lm h'.den.lm h.den.fm h'.den.fm (h.den.nv.trans h'.den.nv.symm)
    have v1 := h.num.val; have v2 := h'.num.val
    have p1 := sgn_of_wfB h.num.wf; have p2 := sgn_of_wfB h'.num.wf
    have q1 : 0 < n → 0 < vf f n := vf_pos h.num.lm h.num.fm
    have q2 : 0 < n' → 0 < vf f' n' := vf_pos h'.num.lm h'.num.fm
    cases s <;> cases t
    · rw [wv_false] at v1 v2
      exact ⟨rfl, vf_inj h.num.lm h'.num.lm h.num.fm h'.num.fm (v1.trans v2.symm), e2⟩
    · rw [wv_false] at v1; rw [wv_true] at v2
      have := q2 (p2 rfl)
      omega
    · rw [wv_true] at v1; rw [wv_false] at v2
      have := q1 (p1 rfl)
      omega
    · rw [wv_true] at v1 v2
      exact ⟨rfl, vf_inj h.num.lm h'.num.lm h.num.fm h'.num.fm (by omega), e2⟩
/-- A box of three cells at block B. -/
structure Bx3 (w : World) (B : Nat) (a0 a1 a2 : Value) : Prop where
  z : B < w.heap.size
  x0 : w.cell? ⟨B, 0, none⟩ = some a0
  x1 : w.cell? ⟨B, 1, none⟩ = some a1
  x2 : w.cell? ⟨B, 2, none⟩ = some a2
theorem Bx3.below {w w' B a0 a1 a2} (h : Bx3 w B a0 a1 a2) (hb : Below w.heap.size w w') : Bx3 w' B a0 a1 a2 := ⟨Nat.lt_of_lt_of_le h.z hb.size, kCb hb h.x0, kCb hb h.x1, kCb hb h.x2⟩
theorem Bx3.alloc {w B a0 a1 a2} (h : Bx3 w B a0 a1 a2) (o : Obj) : Bx3 (w.alloc o) B a0 a1 a2 := h.below (below_alloc (Below.refl _ _) o)
theorem bx3_at (w : World) (a0 a1 a2 : Value) (t : TypeId) : Bx3 (w.alloc (.cells #[a0, a1, a2] t)) w.heap.size a0 a1 a2 := ⟨by simp, by simp [go_sem], by simp [go_sem], by simp [go_sem]⟩
theorem bx3_new {w w' : World} {a0 a1 a2 : Value} {t : TypeId} (hb : Below (w.alloc (.cells #[a0, a1, a2] t)).heap.size (w.alloc (.cells #[a0, a1, a2] t)) w') : Bx3 w' w.heap.size a0 a1 a2 := (bx3_at w a0 a1 a2 t).below hb

set_option maxHeartbeats 1000000 in
theorem rForm_c {w : World} {s x n c f y m d g} (h : Rw w x n c f y m d g) (hn : n ≤ 1048576) (hm : m ≤ 1048576) :
    Calls Try.prog 53 #[.agg #[.bool s, .slice x n c, .slice y m d]] w fun e w' => e = .returned (.bool (rfB s f n g m)) ∧ Below w.heap.size w w' := by
  have H := hid h
  have hrf : rfB s f n g m = (wfB s f n && (fmB g m && (decide (0 < m) && decide ((vf f n).toNat.gcd (vf g m).toNat = 1)))) := rfl
  rw [hrf]
  clear h hrf
  go_enter Try.func53, Try.ntmps53
  go_wp2_with fail
  refine (numer_c s x y n c m d _).mono ?_
  rintro e w1 ⟨rfl, hb⟩
  have B1 := hid (bx3_new hb); have HW1 : Hid (Below w.heap.size w w1) := (below_alloc (Below.refl w.heap.size w) _).trans (hb.mono (by simp))
  clear hb
  obtain ⟨z, x0, x1, x2⟩ := B1.out
  go_wp2_with fail
  refine (wForm_c s x n c f _ (by omega) (H.out.rx.below HW1.out (Nat.le_refl _))).mono ?_
  rintro e w2 ⟨rfl, hb⟩
  have B2 := hid (B1.out.below hb); have HW2 := hid (HW1.out.trans (hb.mono HW1.out.size))
  clear hb B1 z x0 x1 x2 HW1
  obtain ⟨z, x0, x1, x2⟩ := B2.out
  cases h1 : wfB s f n
  · have E : Hid ((wfB s f n && (fmB g m && (decide (0 < m) && decide ((vf f n).toNat.gcd (vf g m).toNat = 1)))) = false) := hid (by rw [h1]; rfl)
    go_wp2
    go_ret
    exact ⟨by rw [E.out]; rfl, HW2.out⟩
  have F1 := hid h1
  clear h1
  have c2 := form_c y m d g w2 (by omega) (H.out.ry.below HW2.out (Nat.le_refl _))
  go_wp2_with fail
  refine c2.mono ?_
  rintro e w3 ⟨rfl, rfl⟩
  clear c2
  cases h2 : fmB g m
  · have E : Hid ((wfB s f n && (fmB g m && (decide (0 < m) && decide ((vf f n).toNat.gcd (vf g m).toNat = 1)))) = false) := hid (by rw [F1.out, h2]; rfl)
    go_wp2
    go_ret
    exact ⟨by rw [E.out]; rfl, HW2.out⟩
  by_cases h3 : 0 < m
  · have h3' : ((m : Int) == 0) = false := by simp; omega
    have hd3 : decide (0 < m) = true := by simp; omega
    have E : Hid ((wfB s f n && (fmB g m && (decide (0 < m) && decide ((vf f n).toNat.gcd (vf g m).toNat = 1)))) = decide ((((vf f n).toNat.gcd (vf g m).toNat : Nat) : Int) = 1)) := hid (by
      rw [F1.out, h2, hd3, Bool.true_and, Bool.true_and, Bool.true_and]
      by_cases h : (vf f n).toNat.gcd (vf g m).toNat = 1
      · simp [h]
      · have : ¬ ((((vf f n).toNat.gcd (vf g m).toNat : Nat) : Int) = 1) := by omega
        simp [h, this])
    have hh := (H.out.below HW2.out)
    have W1 : Wn w3 false x n c f ((vf f n).toNat : Nat) := ⟨hh.rx, hh.lx, (wfB_iff _ _ _).2 ⟨fm_of_wfB F1.out, fun h => by cases h⟩, hh.cx, hh.nx, by have := vf_nonneg hh.lx; show vf f n = _; omega⟩
    have W2 : Wn w3 false y m d g ((vf g m).toNat : Nat) := ⟨hh.ry, hh.ly, (wfB_iff _ _ _).2 ⟨fm_of h2, fun h => by cases h⟩, hh.cy, hh.ny, by have := vf_nonneg hh.ly; show vf g m = _; omega⟩
    have C3 := hid (ratGcd_c W1 W2 (by omega) (by omega))
    clear hh W1 W2 hd3 h2 h3
    go_wp2_with fail
    refine C3.out.mono ?_
    rintro e w4 ⟨zg, kg, cg, fg, rfl, hb, hg⟩
    have C4 := hid (isOne_c hg)
    clear hg
    go_wp2_with fail
    refine C4.out.mono ?_
    rintro e w5 ⟨rfl, rfl⟩
    go_wp2
    go_ret
    exact ⟨by rw [E.out]; rfl, HW2.out.trans (hb.mono HW2.out.size)⟩
  · have h3' : m = 0 := by omega
    have E : Hid ((wfB s f n && (fmB g m && (decide (0 < m) && decide ((vf f n).toNat.gcd (vf g m).toNat = 1)))) = false) := hid (by simp [h3'])
    subst h3'
    go_wp2
    go_ret
    exact ⟨by rw [E.out]; rfl, HW2.out⟩
end Go.Proofs.Ytllpllebmknmpaa
namespace Go.Proofs.Ytllpllebmknmpaa
open Go.RowKit

/-- A number in memory: its sign, and where the limbs of numerator and denominator lie. -/
structure Nm where
  s : Bool
  x : Option Addr
  n : Nat
  c : Nat
  f : Nat → Int
  y : Option Addr
  m : Nat
  d : Nat
  g : Nat → Int
/-- It can be read, whatever it is, and is not too long. -/
def NmR (w : World) (t : Nm) : Prop := Rw w t.x t.n t.c t.f t.y t.m t.d t.g ∧ t.n ≤ 65536 ∧ t.m ≤ 65536
def nfB (t : Nm) : Bool := rfB t.s t.f t.n t.g t.m
theorem NmR.below {w w' t} (h : NmR w t) (hb : Below w.heap.size w w') : NmR w' t := ⟨h.1.below hb, h.2⟩
/-- Four cells from place o of block b on. -/
structure C4 (w : World) (b o : Nat) (a0 a1 a2 a3 : Value) : Prop where
  x0 : w.cell? ⟨b, o, none⟩ = some a0
  x1 : w.cell? ⟨b, o + 1, none⟩ = some a1
  x2 : w.cell? ⟨b, o + 2, none⟩ = some a2
  x3 : w.cell? ⟨b, o + 3, none⟩ = some a3
theorem C4.below {w w' b o a0 a1 a2 a3} (h : C4 w b o a0 a1 a2 a3) (hb : Below w.heap.size w w') : C4 w' b o a0 a1 a2 a3 := ⟨kCb hb h.x0, kCb hb h.x1, kCb hb h.x2, kCb hb h.x3⟩
end Go.Proofs.Ytllpllebmknmpaa
namespace Go.Proofs.Ytllpllebmknmpaa
open Go.RowKit

end Go.Proofs.Ytllpllebmknmpaa
namespace Go.Proofs.Ytllpllebmknmpaa
open Go.RowKit

end Go.Proofs.Ytllpllebmknmpaa
namespace Go.Proofs.Ytllpllebmknmpaa
open Go.RowKit

/-- Digits in form that can be read, with their number. -/
structure Dn (w : World) (x : Option Addr) (n : Nat) (d : Nat → Int) (V : Nat) : Prop where
  rd : Rd .u64 w x n d
  dg : Dg d n
  fm : Fm d n
  val : vd d n = V
theorem Dn.below {w w' x n d V} (h : Dn w x n d V) (hb : Below w.heap.size w w') : Dn w' x n d V := ⟨h.rd.below hb (Nat.le_refl _), h.dg, h.fm, h.val⟩
theorem Dn.alloc {w x n d V} (h : Dn w x n d V) (o : Obj) : Dn (w.alloc o) x n d V := ⟨h.rd.below ((Below.refl _ _).alloc (Nat.le_refl _) o) (Nat.le_refl _), h.dg, h.fm, h.val⟩
theorem Dn.drew {w x n d V} (h : Dn w x n d V) : Dn w.drew x n d V := ⟨h.rd, h.dg, h.fm, h.val⟩
theorem Dn.pos {w x n d V} (h : Dn w x n d V) (hV : 0 < V) : 0 < n := by
  rcases Nat.eq_zero_or_pos n with h0 | h0
  · subst h0; have : (0 : Int) = V := h.val; omega
  · exact h0
theorem Dn.zero {w x d V} (h : Dn w x 0 d V) : V = 0 := by have : (0 : Int) = V := h.val; omega
theorem Dn.pos' {w x n d V} (h : Dn w x n d V) (hn : 0 < n) : 0 < V := by
  have h1 := vd_form_ge h.dg h.fm hn
  have h2 := pd_pos (n - 1)
  rw [h.val] at h1
  omega
end Go.Proofs.Ytllpllebmknmpaa
namespace Go.Proofs.Ytllpllebmknmpaa
open Go.RowKit

end Go.Proofs.Ytllpllebmknmpaa
namespace Go.Proofs.Ytllpllebmknmpaa
open Go.RowKit

/-- A new box for an answer of three cells. -/
structure Ob (w : World) (B : Nat) : Prop where
  z : B < w.heap.size
  z0 : w.cell? ⟨B, 0, none⟩ = some (.bool false)
  z1 : w.cell? ⟨B, 1, none⟩ = some (.slice none 0 0)
  z2 : w.cell? ⟨B, 2, none⟩ = some (.slice none 0 0)
  zf : ∀ o, w.frozen? ⟨B, o, none⟩ = false
theorem Ob.below {w w' B} (h : Ob w B) (hb : Below w.heap.size w w') : Ob w' B := by
  obtain ⟨h1, h2⟩ := bcell hb
  exact ⟨Nat.lt_of_lt_of_le h.z hb.size, kCb hb h.z0, kCb hb h.z1, kCb hb h.z2, fun o => (h2 _ _ h.z).trans (h.zf o)⟩
theorem kOb {w w' B} (hb : Below w.heap.size w w') (h : Ob w B) : Ob w' B := h.below hb
theorem kDb {w w' x n d V} (hb : Below w.heap.size w w') (h : Dn w x n d V) : Dn w' x n d V := h.below hb
theorem Ob.alloc {w B} (h : Ob w B) (o : Obj) : Ob (w.alloc o) B := h.below (below_alloc (Below.refl _ _) o)
theorem Ob.drew {w B} (h : Ob w B) : Ob w.drew B := ⟨h.z, h.z0, h.z1, h.z2, h.zf⟩
theorem Ob.drewN {w B} (h : Ob w B) (q : Nat) : Ob (w.drewN q) B := ⟨h.z, h.z0, h.z1, h.z2, h.zf⟩
theorem ob_new (w : World) (t : TypeId) : Ob (w.alloc (.cells #[.bool false, .slice none 0 0, .slice none 0 0] t)) w.heap.size := by
  refine ⟨by simp, by simp [go_sem], by simp [go_sem], by simp [go_sem], fun o => ?_⟩
  have e := heap_alloc_new w (.cells #[.bool false, .slice none 0 0, .slice none 0 0] t)
  simp only [World.frozen?, e]; simp
theorem rd_setne {w : World} {p : Addr} {v u : Value} {x n f} (hp : w.cell? p = some v) (hv : ∀ i, v ≠ .int .u64 i) (h : Rd .u64 w x n f) : Rd .u64 (w.setCell p u) x n f := by
  intro j hj
  obtain ⟨b, o, hx, hc⟩ := h j hj
  refine ⟨b, o, hx, ?_⟩
  rw [World.cell?_setCell_other _ _ _ _ (fun he => hv _ (Option.some.inj (hp.symm.trans (he ▸ hc))))]
  exact hc
theorem Ob.rd {w B u0 u1 u2 x n f} (h : Ob w B) (hx : Rd .u64 w x n f) : Rd .u64 (((w.setCell ⟨B, 0, none⟩ u0).setCell ⟨B, 1, none⟩ u1).setCell ⟨B, 2, none⟩ u2) x n f :=
  rd_setne (cell_off (by decide) (cell_off (by decide) h.z2)) (fun i h => by cases h) (rd_setne (cell_off (by decide) h.z1) (fun i h => by cases h) (rd_setne h.z0 (fun i h => by cases h) hx))
theorem Ob.wn {w B u0 u1 u2 s x n c f v} (h : Ob w B) (hx : Wn w s x n c f v) : Wn (((w.setCell ⟨B, 0, none⟩ u0).setCell ⟨B, 1, none⟩ u1).setCell ⟨B, 2, none⟩ u2) s x n c f v := ⟨h.rd hx.rd, hx.lm, hx.wf, hx.cap, hx.nil, hx.val⟩
theorem Ob.dn {w B u0 u1 u2 x n d V} (h : Ob w B) (hx : Dn w x n d V) : Dn (((w.setCell ⟨B, 0, none⟩ u0).setCell ⟨B, 1, none⟩ u1).setCell ⟨B, 2, none⟩ u2) x n d V := ⟨h.rd hx.rd, hx.dg, hx.fm, hx.val⟩
theorem Ob.rn {w B u0 u1 u2 L s x n c f y m d g q} (h : Ob w B) (hx : Rn L w s x n c f y m d g q) : Rn L (((w.setCell ⟨B, 0, none⟩ u0).setCell ⟨B, 1, none⟩ u1).setCell ⟨B, 2, none⟩ u2) s x n c f y m d g q := ⟨h.wn hx.num, h.wn hx.den, hx.ln, hx.ld⟩
theorem below_st {w0 w : World} {B : Nat} {u0 u1 u2 : Value} (hw : Below w0.heap.size w0 w) (hB : w0.heap.size ≤ B) :
    Below w0.heap.size w0 (((w.setCell ⟨B, 0, none⟩ u0).setCell ⟨B, 1, none⟩ u1).setCell ⟨B, 2, none⟩ u2) :=
  below_turned hw hw.size ((((Turned.refl w0.heap.size (B + 1) w).set (x := ⟨B, 0, none⟩) hB (by simp) _).set (x := ⟨B, 1, none⟩) hB (by simp) _).set (x := ⟨B, 2, none⟩) hB (by simp) _) (Nat.le_refl _)
theorem Dn.drewN {w x n d V} (h : Dn w x n d V) (q : Nat) : Dn (w.drewN q) x n d V := ⟨h.rd, h.dg, h.fm, h.val⟩
end Go.Proofs.Ytllpllebmknmpaa
namespace Go.Proofs.Ytllpllebmknmpaa
open Go.RowKit

theorem Tg.set {w x} (h : Tg w x) (p : Addr) (u : Value) : Tg (w.setCell p u) x := fun a ha => by
  obtain ⟨arr, fr, hh⟩ := h a ha
  by_cases e : a.block = p.block
  · refine ⟨if p.spot.isSome then arr else arr.setIfInBounds p.off u, fr, ?_⟩
    rw [e] at hh ⊢
    simp [World.setCell, Array.getElem?_modify, hh]
  · exact ⟨arr, fr, (Below.heap_setCell w p u a.block e).trans hh⟩
theorem Tg.alloc {w x} (h : Tg w x) (o : Obj) : Tg (w.alloc o) x := h.below (below_alloc (Below.refl _ _) o)
theorem own_wn {w base x n c f} {V : Nat} (h : Own .u64 63 w base (.slice x n c) n f) (hl : Lm f n) (hf : Fm f n) (hv : vf f n = V) : Wn w false x n c f (V : Int) := by
  obtain ⟨h1, h2, h3, h4, _⟩ := h.slice
  exact ⟨h4, hl, (wfB_iff _ _ _).2 ⟨hf, fun h => by cases h⟩, ⟨h1, h2⟩, h3, hv⟩
theorem toWn_c {w x n c d} {V : Nat} (h : Dn w x n d V) (hn : n ≤ 1048576) :
    Calls Try.prog 55 #[.slice x n c] w fun e w' => ∃ z k c' f, e = .returned (.slice z k c') ∧ Below w.heap.size w w' ∧ Hid (k ≤ n ∧ Wn w' false z k c' f (V : Int) ∧ Tg w' z) :=
  (toOwn_c x n c d w hn h.rd h.dg h.fm).mono (fun _ _ ⟨z, k, c', f, h1, h2, h3, _, h4, h5, h6, h7⟩ => ⟨z, k, c', f, h1, h3, h4, own_wn h2 h5 h6 (h7.trans h.val), h2.tg⟩)
set_option maxRecDepth 100000 in
set_option maxHeartbeats 4000000 in
theorem qTo_c {w : World} {r : Bool} {x n c d y m e g} {A B : Nat} (ha : Dn w x n d A) (hb : Dn w y m g B) (hn : n ≤ 131072) (hm : m ≤ 131072) :
    Calls Try.prog 46 #[.agg #[.bool r, .slice x n c, .slice y m e]] w fun en w' => ∃ z k c' f z2 k2 c2 f2, en = .returned (.agg #[.bool r, .slice z k c', .slice z2 k2 c2]) ∧ Below w.heap.size w w' ∧ k ≤ n ∧ k2 ≤ m ∧ Wn w' false z k c' f (A : Int) ∧ Wn w' false z2 k2 c2 f2 (B : Int) ∧ Tg w' z ∧ Tg w' z2 := by
  have h1 := (ha.alloc (.cells #[.bool r, .slice x n c, .slice y m e] 102)).alloc (.cells #[.bool false, .slice none 0 0, .slice none 0 0] 66)
  have h2 := (hb.alloc (.cells #[.bool r, .slice x n c, .slice y m e] 102)).alloc (.cells #[.bool false, .slice none 0 0, .slice none 0 0] 66)
  have h3 := ob_new (w.alloc (.cells #[.bool r, .slice x n c, .slice y m e] 102)) 66
  rw [size_alloc1] at h3
  have h4 := below_alloc (below_alloc (Below.refl w.heap.size w) (.cells #[.bool r, .slice x n c, .slice y m e] 102)) (.cells #[.bool false, .slice none 0 0, .slice none 0 0] 66)
  have h5 := (bx3_at w (.bool r) (.slice x n c) (.slice y m e) 102).alloc (.cells #[.bool false, .slice none 0 0, .slice none 0 0] 66)
  clear ha hb
  go_enter Try.func46, Try.ntmps46
  go_wp2_with fail
  generalize (w.alloc (.cells #[.bool r, .slice x n c, .slice y m e] 102)).alloc (.cells #[.bool false, .slice none 0 0, .slice none 0 0] 66) = w1 at *
  have HA := hid h1; have HB := hid h2; have OB := h3; have HW := hid h4
  obtain ⟨hz, z0, z1, z2, zf⟩ := h3
  obtain ⟨hy, x0, x1, x2⟩ := h5
  clear h1 h2 h4
  have C1 : Hid (∀ W, Below w1.heap.size w1 W → Calls Try.prog 55 #[.slice x n c] W fun e w' => ∃ z k c' f, e = .returned (.slice z k c') ∧ Below W.heap.size W w' ∧ Hid (k ≤ n ∧ Wn w' false z k c' f (A : Int) ∧ Tg w' z)) := fun W hW => toWn_c (HA.out.below hW) (by omega)
  have C2 : Hid (∀ W, Below w1.heap.size w1 W → Calls Try.prog 55 #[.slice y m e] W fun e w' => ∃ z k c' f, e = .returned (.slice z k c') ∧ Below W.heap.size W w' ∧ Hid (k ≤ m ∧ Wn w' false z k c' f (B : Int) ∧ Tg w' z)) := fun W hW => toWn_c (HB.out.below hW) (by omega)
  go_region_held3 (fun w' => w'.cell? ⟨w.heap.size, 0, none⟩ = some (.bool r) ∧ w'.cell? ⟨w.heap.size, 1, none⟩ = some (.slice x n c) ∧ w'.cell? ⟨w.heap.size, 2, none⟩ = some (.slice y m e) ∧ (w'.cell? ⟨w.heap.size + 1, 0, none⟩).isSome = true ∧ (w'.cell? ⟨w.heap.size + 1, 1, none⟩).isSome = true ∧ (w'.cell? ⟨w.heap.size + 1, 2, none⟩).isSome = true ∧ w'.frozen? ⟨w.heap.size + 1, 0, none⟩ = false ∧ w'.frozen? ⟨w.heap.size + 1, 1, none⟩ = false ∧ w'.frozen? ⟨w.heap.size + 1, 2, none⟩ = false)
    (refine ⟨?_, ?_, ?_, ?_, ?_, ?_, ?_, ?_, ?_⟩ <;> repeat (with_reducible first | assumption | exact zf _ | exact kI0 z0 | exact kI0 z1 | exact kI0 z2 | exact tf _ | exact kI0 t0 | exact kI0 t1 | exact kI0 t2 | exact uf _ | exact kI0 u0 | exact kI0 u1 | exact kI0 u2 | refine kCd ?_ | refine kId ?_ | refine kFd ?_ | refine kCs (by simp only [ne_eq]; omega) ?_ | refine kIs ?_ | refine kFs ?_ | refine kCb (by assumption) ?_ | refine kIb (by assumption) ?_))
    (first
      | (go_at_call 55; with_reducible refine (C1.out _ (by repeat (with_reducible first | assumption | exact Below.refl _ _ | refine Below.drew ?_ | refine kBa ?_ | refine kBb (by assumption) ?_))).mono ?_; rintro e w5 ⟨za, ka, ca, fa, rfl, hb5, HP⟩; have TU : Ob w5 (w.heap.size + 1) := (by repeat (with_reducible first | exact OB | exact hO2 | exact TU | exact TV | exact TW | exact TX | exact TY | refine Ob.drew ?_ | refine kOb (by assumption) ?_)); obtain ⟨_, t0, t1, t2, tf⟩ := id TU)
      | (go_at_call 55; with_reducible refine (C2.out _ (by repeat (with_reducible first | assumption | exact Below.refl _ _ | refine Below.drew ?_ | refine kBa ?_ | refine kBb (by assumption) ?_))).mono ?_; rintro e w6 ⟨zb, kb, cb, fb, rfl, hb6, HQ⟩; have TV : Ob w6 (w.heap.size + 1) := (by repeat (with_reducible first | exact OB | exact hO2 | exact TU | exact TV | exact TW | exact TX | exact TY | refine Ob.drew ?_ | refine kOb (by assumption) ?_)); obtain ⟨_, u0, u1, u2, uf⟩ := id TV))
  have WA : Wn w6 false za ka ca fa (A : Int) := HP.out.2.1.below hb6
  have hb : Below w1.heap.size w1 w6 := (by repeat (with_reducible first | assumption | exact Below.refl _ _ | refine Below.drew ?_ | refine kBa ?_ | refine kBb (by assumption) ?_))
  go_wp2
  exact bodyPost_ret (v := .agg #[.bool r, .slice za ka ca, .slice zb kb cb]) (by simp [results, Try.results46, go_sem, u0, u1, u2]) rfl ⟨za, ka, ca, fa, zb, kb, cb, fb, rfl, below_st (HW.out.trans (hb.mono HW.out.size)) (by omega), HP.out.1, HQ.out.1, TV.wn WA, TV.wn HQ.out.2.1, ((((HP.out.2.2.below hb6).set _ _).set _ _).set _ _), (((HQ.out.2.2.set _ _).set _ _).set _ _)⟩

end Go.Proofs.Ytllpllebmknmpaa
namespace Go.Proofs.Ytllpllebmknmpaa
open Go.RowKit

end Go.Proofs.Ytllpllebmknmpaa
namespace Go.Proofs.Ytllpllebmknmpaa
open Go.RowKit

theorem kCe {w : World} {a : Addr} {v : Value} (h : (w.cell? a).isSome = true) : (w.setCell a v).cell? a = some v := World.cell?_setCell_same' w a v h
theorem kCo {w : World} {b i j : Nat} {u v : Value} (hij : i ≠ j) (h : w.cell? ⟨b, j, none⟩ = some u) : (w.setCell ⟨b, i, none⟩ v).cell? ⟨b, j, none⟩ = some u := by
  rw [World.cell?_setCell_other _ _ _ _ (fun he => hij (congrArg Addr.off he))]; exact h
end Go.Proofs.Ytllpllebmknmpaa
namespace Go.Proofs.Ytllpllebmknmpaa
open Go.RowKit

set_option maxRecDepth 100000 in
set_option maxHeartbeats 400000 in
theorem rclone_c (ao : Option Addr) (n cap : Nat) (f : Nat → Int) (w : World) (hn : n ≤ 1048576) (hr : Rd .u64 w ao n f) (hnil : ao = none → n = 0 ∧ cap = 0) :
    Calls Try.prog 66 #[.slice ao n cap] w fun e w' => ∃ ao' cap', e = .returned (.slice ao' n cap') ∧ Below w.heap.size w w' ∧ Own .u64 63 w' w.heap.size (.slice ao' n cap') n f := by
  cases ao with
  | none =>
    obtain ⟨rfl, rfl⟩ := hnil rfl
    go_enter Try.func66, Try.ntmps66
    obtain ⟨i0, hi, hz0, hz1, hz2⟩ := info_parts Try.infoU64
    go_wp2_with (at_builtin; refine wpList_append_own_none rfl (.const (.slice none 0 0)) (.tmp 3) 64 rfl w.heap.size 63 i0 1 Try.underlying64 hi (.slice none 0 0) 0 [] rfl (World.ownsRow_nil _ _ _ _) rfl ?_)
    go_ret
    exact ⟨none, 0, rfl, Below.refl _ _, own_nil _ _ _ _ _⟩
  | some ad =>
    clear hnil
    have HR := hid hr
    clear hr
    go_enter Try.func66, Try.ntmps66
    obtain ⟨i0, hi, hz0, hz1, hz2⟩ := info_parts Try.infoU64
    go_wp2_with (at_builtin; refine wpList_append_own w rfl (.const (.slice none 0 0)) (.tmp 3) 64 rfl w.heap.size 63 i0 (.int .u64 0) 1 8 Try.underlying64 hi hz0 hz1 hz2 rfl (by decide) (.slice none 0 0) 0 [] rfl (World.ownsRow_nil _ _ _ _) ad n cap (lst .u64 f n) rfl (by rw [lst_length, Nat.mul_one]) ?c1 (lst_one _ _ _) ?c2 ?c3 (Nat.le_refl _) ?_)
    case c1 =>
      intro j u hu
      obtain ⟨hj, rfl⟩ := lst_getE hu
      obtain ⟨b, o, e, hc⟩ := HR.out j hj
      cases e
      rw [addr_add]; exact hc
    case c2 => unfold maxLen; omega
    case c3 => omega
    intro v' w' hown hgr _
    have hown' : Own .u64 63 w' w.heap.size v' n f := hown
    have hbel : Below w.heap.size w w' := (Below.refl _ _).grown hgr (Nat.le_refl _) (fun k h => by simp [Value.ownBlock] at h)
    obtain ⟨ao', cap', hv, hcc, hnn, hml, hrd, hlt⟩ := hown'.shape
    rw [hv] at hown' ⊢
    clear hown hgr hv
    have HO := hid hown'
    clear hown'
    go_wp2
    go_ret
    exact ⟨ao', cap', rfl, hbel, HO.out⟩
end Go.Proofs.Ytllpllebmknmpaa
namespace Go.Proofs.Ytllpllebmknmpaa
open Go.RowKit

/-- Three cells from place o of block b on. -/
structure C3 (w : World) (b o : Nat) (a0 a1 a2 : Value) : Prop where
  x0 : w.cell? ⟨b, o, none⟩ = some a0
  x1 : w.cell? ⟨b, o + 1, none⟩ = some a1
  x2 : w.cell? ⟨b, o + 2, none⟩ = some a2
theorem C3.below {w w' b o a0 a1 a2} (h : C3 w b o a0 a1 a2) (hb : Below w.heap.size w w') : C3 w' b o a0 a1 a2 := ⟨kCb hb h.x0, kCb hb h.x1, kCb hb h.x2⟩
/-- A list of k numbers that can be read, whatever they are. -/
def Rl (w : World) (ao : Option Addr) (k : Nat) (X : Nat → Nm) : Prop :=
  ∀ j, j < k → ∃ b o, ao = some ⟨b, o, none⟩ ∧ C3 w b (o + j * 3) (.bool (X j).s) (.slice (X j).x (X j).n (X j).c) (.slice (X j).y (X j).m (X j).d) ∧ NmR w (X j)
theorem Rl.below {w w' ao k X} (h : Rl w ao k X) (hb : Below w.heap.size w w') : Rl w' ao k X := fun j hj => by
  obtain ⟨b, o, e, h1, h2⟩ := h j hj
  exact ⟨b, o, e, h1.below hb, h2.below hb⟩
/-- All in form from number i on. -/
def afr (X : Nat → Nm) : Nat → Nat → Bool
  | 0, _ => true
  | r + 1, i => nfB (X i) && afr X r (i + 1)
def afB (k : Nat) (X : Nat → Nm) : Bool := afr X k 0
theorem box3 {w w1 : World} {a0 a1 a2 : Value} {t : TypeId} (hb : Below (w.alloc (.cells #[a0, a1, a2] t)).heap.size (w.alloc (.cells #[a0, a1, a2] t)) w1) : w.heap.size < w1.heap.size ∧ w1.cell? ⟨w.heap.size, 0, none⟩ = some a0 ∧ w1.cell? ⟨w.heap.size, 1, none⟩ = some a1 ∧ w1.cell? ⟨w.heap.size, 2, none⟩ = some a2 ∧ Below w.heap.size w w1 := by
  have hz := hb.size
  simp at hz
  exact ⟨by omega, kCb hb (by simp [go_sem]), kCb hb (by simp [go_sem]), kCb hb (by simp [go_sem]), (below_alloc (Below.refl _ w) _).trans (hb.mono (by simp))⟩

end Go.Proofs.Ytllpllebmknmpaa
namespace Go.Proofs.Ytllpllebmknmpaa
open Go.RowKit

/-- Two boxes of three cells. -/
theorem two_new {w w1 : World} {a0 a1 a2 b0 b1 b2 : Value} {t : TypeId} (hb : Below ((w.alloc (.cells #[a0, a1, a2] t)).alloc (.cells #[b0, b1, b2] t)).heap.size ((w.alloc (.cells #[a0, a1, a2] t)).alloc (.cells #[b0, b1, b2] t)) w1) :
    Bx3 w1 w.heap.size a0 a1 a2 ∧ Bx3 w1 (w.heap.size + 1) b0 b1 b2 ∧ Below w.heap.size w w1 := by
  have h2 := bx3_at (w.alloc (.cells #[a0, a1, a2] t)) b0 b1 b2 t
  rw [size_alloc1] at h2
  exact ⟨((bx3_at w a0 a1 a2 t).alloc _).below hb, h2.below hb, (below_alloc (below_alloc (Below.refl w.heap.size w) _) _).trans (hb.mono (by simp; omega))⟩
theorem beq_bool_true {s t : Bool} (h : s = t) : (s == t) = true := by subst h; cases s <;> rfl
theorem beq_bool_false {s t : Bool} (h : ¬ s = t) : (s == t) = false := by cases s <;> cases t <;> first | rfl | exact absurd rfl h
set_option maxHeartbeats 1000000 in
theorem rSame_c (sa : Bool) (xa ya : Option Addr) (na ca ma da : Nat) (fa ga : Nat → Int) (sb : Bool) (xb yb : Option Addr) (nb cb mb db : Nat) (fb gb : Nat → Int) (w : World) (h1 : Rd .u64 w xa na fa) (h2 : Rd .u64 w ya ma ga) (h3 : Rd .u64 w xb nb fb) (h4 : Rd .u64 w yb mb gb) (l1 : na ≤ 140737488355328) (l2 : ma ≤ 140737488355328) (l3 : nb ≤ 140737488355328) (l4 : mb ≤ 140737488355328) :
    Calls Try.prog 30 #[.agg #[.bool sa, .slice xa na ca, .slice ya ma da], .agg #[.bool sb, .slice xb nb cb, .slice yb mb db]] w fun e w' => ∃ b, e = .returned (.bool b) ∧ Below w.heap.size w w' ∧ (b = true ↔ sa = sb ∧ Alk na nb fa fb ∧ Alk ma mb ga gb) := by
  have H1 := hid h1; have H2 := hid h2; have H3 := hid h3; have H4 := hid h4
  clear h1 h2 h3 h4
  by_cases hs : sa = sb
  · have hse := beq_bool_true hs
    have HS := hid hs
    clear hs
    go_enter Try.func30, Try.ntmps30
    go_wp2_with fail
    refine (same_c xa xb na nb ca cb fa fb _ l1 l3 ((H1.out.alloc _).alloc _) ((H3.out.alloc _).alloc _)).mono ?_
    rintro e w1 ⟨⟨q, hq⟩, b, rfl, hb1⟩
    obtain ⟨⟨za, x0, x1, x2⟩, ⟨zb, y0, y1, y2⟩, hw⟩ := two_new (drewN_below hq)
    have HW1 := hid hw; have HB1 := hid hb1
    clear hq hw hb1
    cases b
    · go_wp2
      go_ret
      exact ⟨false, rfl, HW1.out, (fun h => by cases h), fun h => HB1.out.2 h.2.1⟩
    · go_wp2_with fail
      refine (same_c ya yb ma mb da db ga gb _ l2 l4 (H2.out.below HW1.out (Nat.le_refl _)) (H4.out.below HW1.out (Nat.le_refl _))).mono ?_
      rintro e w2 ⟨⟨q, hq⟩, b, rfl, hb2⟩
      have HW2 := hid (HW1.out.trans ((drewN_below hq).mono HW1.out.size)); have HB2 := hid hb2
      clear hq hb2
      go_wp2
      go_ret
      exact ⟨b, rfl, HW2.out, fun h => ⟨HS.out, HB1.out.1 (by simp), HB2.out.1 h⟩, fun h => HB2.out.2 h.2.2⟩
  · have hse := beq_bool_false hs
    have HS := hid hs
    clear hs
    go_enter Try.func30, Try.ntmps30
    go_wp2
    go_ret
    exact ⟨false, rfl, below_alloc (below_alloc (Below.refl _ _) _) _, (fun h => by cases h), fun h => absurd h.1 HS.out⟩
def lg (n m k : Nat) : Bool := decide (n ≤ k) && decide (m ≤ k)
end Go.Proofs.Ytllpllebmknmpaa
namespace Go.Proofs.Ytllpllebmknmpaa
open Go.RowKit

theorem rLightK_c (K : Nat) (s : Bool) (x y : Option Addr) (n c m d : Nat) (w : World) :
    Calls Try.prog 31 #[.agg #[.bool s, .slice x n c, .slice y m d], .int .i64 K] w fun e w' => e = .returned (.bool (lg n m K)) ∧ Below w.heap.size w w' := by
  by_cases h1 : n ≤ K
  · have d1 : decide ((n : Int) ≤ (K : Int)) = true := by simp; omega
    by_cases h2 : m ≤ K
    · have d2 : decide ((m : Int) ≤ (K : Int)) = true := by simp; omega
      rw [show lg n m K = true by simp [lg, h1, h2]]
      go_enter Try.func31, Try.ntmps31
      go_wp2
      go_ret
      exact ⟨rfl, below_alloc (Below.refl _ _) _⟩
    · have d2 : decide ((m : Int) ≤ (K : Int)) = false := by simp; omega
      rw [show lg n m K = false by simp [lg, h2]]
      go_enter Try.func31, Try.ntmps31
      go_wp2
      go_ret
      exact ⟨rfl, below_alloc (Below.refl _ _) _⟩
  · have d1 : decide ((n : Int) ≤ (K : Int)) = false := by simp; omega
    rw [show lg n m K = false by simp [lg, h1]]
    go_enter Try.func31, Try.ntmps31
    go_wp2
    go_ret
    exact ⟨rfl, below_alloc (Below.refl _ _) _⟩

def Rr (w : World) (ao : Option Addr) (k : Nat) (X : Nat → Nm) : Prop :=
  ∀ j, j < k → ∃ b o, ao = some ⟨b, o, none⟩ ∧ C3 w b (o + j * 3) (.bool (X j).s) (.slice (X j).x (X j).n (X j).c) (.slice (X j).y (X j).m (X j).d) ∧ Rw w (X j).x (X j).n (X j).c (X j).f (X j).y (X j).m (X j).d (X j).g
theorem Rr.below {w w' ao k X} (h : Rr w ao k X) (hb : Below w.heap.size w w') : Rr w' ao k X := fun j hj => by
  obtain ⟨b, o, e, h1, h2⟩ := h j hj
  exact ⟨b, o, e, h1.below hb, h2.below hb⟩
/-- All numbers from number i on have at most K limbs. -/
def nlg (K : Nat) (X : Nat → Nm) : Nat → Nat → Bool
  | 0, _ => true
  | r + 1, i => lg (X i).n (X i).m K && nlg K X r (i + 1)
theorem nlg_all {K : Nat} {X : Nat → Nm} : ∀ {r i : Nat}, nlg K X r i = true → ∀ j, i ≤ j → j < i + r → (X j).n ≤ K ∧ (X j).m ≤ K := by
  intro r
  induction r with
  | zero => intro i _ j h1 h2; omega
  | succ r ih =>
    intro i h j hj hj2
    simp only [nlg, lg, Bool.and_eq_true, decide_eq_true_eq] at h
    by_cases e : j = i
    · subst e; exact h.1
    · exact ih h.2 j (by omega) (by omega)
theorem Rr.rl {w ao k X} {K : Nat} (h : Rr w ao k X) (hl : nlg K X k 0 = true) (hK : K ≤ 65536) : Rl w ao k X := fun j hj => by
  obtain ⟨b, o, e, h1, h2⟩ := h j hj
  obtain ⟨h3, h4⟩ := nlg_all hl j (by omega) (by omega)
  exact ⟨b, o, e, h1, h2, by omega, by omega⟩

set_option maxRecDepth 100000 in
set_option maxHeartbeats 4000000 in
theorem rLights_c {w : World} {ao : Option Addr} {k cap : Nat} {X : Nat → Nm} (K : Nat) (h : Rr w ao k X) (hk : k ≤ 9223372036854775807) :
    Calls Try.prog 12 #[.slice ao k cap, .int .i64 K] w fun e w' => e = .returned (.bool (decide (k ≤ 300) && nlg K X k 0)) ∧ Below w.heap.size w w' := by
  have H := hid h
  clear h
  by_cases h300 : k ≤ 300
  · have i0 : ¬ ((300 : Int) < ((k : Nat) : Int)) := by omega
    rw [show (decide (k ≤ 300) && nlg K X k 0) = nlg K X k 0 by simp [h300]]
    go_enter Try.func12, Try.ntmps12
    go_wp2_with fail
    go_loopw [12] (fun t wr => ∃ (i : Nat), i ≤ k ∧ t = .int .i64 i ∧ Hid (Below w.heap.size w wr) ∧ Hid (nlg K X k 0 = nlg K X (k - i) i)) (fun t _ => k - (intOf t).toNat)
    case atStart => exact ⟨0, by omega, rfl, Below.refl _ _, rfl⟩
    case round =>
      obtain ⟨i, hi, rfl, HB, HT⟩ := hrel
      by_cases hlt : i < k
      · obtain ⟨b, o, rfl, hc, hn⟩ := (H.out.below HB.out) i hlt
        obtain ⟨r, hr⟩ : ∃ r, k - i = r + 1 := ⟨k - i - 1, by omega⟩
        have hT : nlg K X k 0 = (lg (X i).n (X i).m K && nlg K X r (i + 1)) := by rw [HT.out, hr]; rfl
        have hr2 : k - (i + 1) = r := by omega
        obtain ⟨⟨s, x, n, c, f, y, m, d, g⟩, hTi⟩ : ∃ t, X i = t := ⟨_, rfl⟩
        rw [hTi] at hc hn hT
        obtain ⟨x0, x1, x2⟩ := hc
        replace x0 : wr.cell? ⟨b, o + i * 3, none⟩ = some (.bool s) := x0
        replace x1 : wr.cell? ⟨b, o + i * 3 + 1, none⟩ = some (.slice x n c) := x1
        replace x2 : wr.cell? ⟨b, o + i * 3 + 2, none⟩ = some (.slice y m d) := x2
        have HTi := hid hT; have HR2 := hid hr2
        have i1 : ((i : Nat) : Int) < ((k : Nat) : Int) := by omega
        clear hT hr2 hTi hr hn
        go_wp2_with fail
        refine (rLightK_c K s x y n c m d _).mono ?_
        rintro e w1 ⟨rfl, hb1⟩
        obtain ⟨_, _, _, _, hb2⟩ := box3 hb1
        have HB2 := hid (HB.out.trans (hb2.mono HB.out.size))
        clear hb1 hb2
        cases hf : lg n m K
        · have HF := hid hf
          clear hf
          go_wp2
          go_ret
          refine ⟨?_, HB2.out⟩
          rw [HTi.out]
          show _ = Ending.returned (.bool (lg n m K && _))
          rw [HF.out]; rfl
        · have HF := hid hf
          clear hf
          go_wp2
          go_roundw
          case rel =>
            refine ⟨i + 1, by omega, by go_num, HB2.out, ?_⟩
            show _ = _
            rw [HTi.out, HR2.out]
            show (lg n m K && _) = _
            rw [HF.out]; rfl
          case measure => simp [intOf]; omega
      · have e1 : i = k := by omega
        have HTe : Hid (nlg K X k 0 = true) := by
          show _ = _
          rw [HT.out, e1, Nat.sub_self]; rfl
        have i2 : ¬ (((i : Nat) : Int) < ((k : Nat) : Int)) := by omega
        clear e1 HT
        go_wp2
        go_ret
        refine ⟨?_, HB.out⟩
        rw [HTe.out]; rfl
  · have i0 : (300 : Int) < ((k : Nat) : Int) := by omega
    rw [show (decide (k ≤ 300) && nlg K X k 0) = false by simp [h300]]
    go_enter Try.func12, Try.ntmps12
    go_wp2
    go_ret
    exact ⟨rfl, Below.refl _ _⟩

end Go.Proofs.Ytllpllebmknmpaa
namespace Go.Proofs.Ytllpllebmknmpaa
open Go.ChangeShapes Go.WideShapes Go.ChangeAt Go.RowKit

theorem Try.own : ownKnob Try.prog.godebug = none := by kernel_rfl
theorem Try.laidOut : laidOutB Try.prog = true := by kernel_rfl
theorem Try.cellsU64 : Try.prog.cellsOf 63 = 1 := by kernel_rfl
theorem Try.cellsR : Try.prog.cellsOf 66 = 3 := by kernel_rfl
set_option maxRecDepth 100000 in
/-- A list of limbs inside an argument. -/
theorem viewL {H : Type} {enc : TypeId × Value → H} {W : World} {fuel : Nat} {v : Value} {x : DataW H × List MemPlace} (h : DataW.trod enc Try.prog W 0 (fun _ => true) true fuel 64 [v] = some x) :
    ∃ ao n cap f, v = .slice ao n cap ∧ Rd .u64 W ao n f ∧ Lm f n ∧ (ao = none → n = 0 ∧ cap = 0) ∧ n ≤ cap ∧ cap ≤ 9223372036854775807 := by
  rcases open_ints Try.underlying64 Try.underlying63 Try.cellsU64 h with ⟨hcs, hx⟩ | ⟨a, len', cap', zs, hcs, _, hl, hm, hz, hx, hcell, hwz⟩
  · simp at hcs
    subst hcs
    exact ⟨none, 0, 0, fun _ => 0, rfl, Rd.zero, fun j hj => by omega, fun _ => ⟨rfl, rfl⟩, by omega, by omega⟩
  · simp at hcs
    subst hcs
    simp only [if_true] at hz
    refine ⟨some a, len', cap', fun j => zs.getD j 0, rfl, fun j hj => ?_, fun j hj => ?_, (fun h => by cases h), hl, by unfold maxLen at hm; omega⟩
    · obtain ⟨b, off, spot⟩ := a
      have hspot : spot = none := by simpa [Addr.add] using World.cell?_spot (hcell 0 (by omega))
      subst hspot
      exact ⟨b, off, rfl, by have := hcell j (by omega); rwa [addr_add] at this⟩
    · have hmem : zs.getD j 0 ∈ zs := by
        rw [List.getD_eq_getElem?_getD, List.getElem?_eq_getElem (by omega)]
        exact List.getElem_mem _
      have := bounds_u64 (hwz _ hmem)
      show 0 ≤ zs.getD j 0 ∧ zs.getD j 0 < 18446744073709551616
      omega
/-- A struct of three fields, of two: each is read by itself. -/
theorem fields3 {H : Type} {enc : TypeId × Value → H} {P : Program} {w : World} {base : Nat} {spare : Nat → Bool} {held : Bool} {t : TypeId} {f0 f1 f2 : Field} {fuel : Nat} {cs : List Value} {x : DataW H × List MemPlace} (ht : P.underlying t = some (.struct #[f0, f1, f2])) (h : DataW.trod enc P w base spare held fuel t cs = some x) :
    ∃ y0 y1 y2 k, DataW.trod enc P w base spare held k f0.type ((cs.drop f0.offset).take (P.cellsOf f0.type)) = some y0 ∧ DataW.trod enc P w base spare held k f1.type ((cs.drop f1.offset).take (P.cellsOf f1.type)) = some y1 ∧ DataW.trod enc P w base spare held k f2.type ((cs.drop f2.offset).take (P.cellsOf f2.type)) = some y2 := by
  obtain ⟨ys, k, _, rfl, _, hlen, hf⟩ := DataW.trod_struct ht h
  match ys, hlen with
  | [y0, y1, y2], _ => exact ⟨y0, y1, y2, k, by simpa using hf 0 f0 rfl, by simpa using hf 1 f1 rfl, by simpa using hf 2 f2 rfl⟩
set_option maxRecDepth 100000 in
/-- Three cells that are a rational number. -/
theorem viewRc {H : Type} {enc : TypeId × Value → H} {W : World} {k : Nat} {c0 c1 c2 : Value} {z : DataW H × List MemPlace} (hf : DataW.trod enc Try.prog W 0 (fun _ => true) true k 66 [c0, c1, c2] = some z) :
    ∃ s x n c f y m b g, c0 = .bool s ∧ c1 = .slice x n c ∧ c2 = .slice y m b ∧ Rw W x n c f y m b g := by
  obtain ⟨y0, y1, y2, k, h0, h1, h2⟩ := fields3 Try.underlying66 hf
  have h0' : DataW.trod enc Try.prog W 0 (fun _ => true) true k 4 [c0] = some y0 := h0
  have h1' : DataW.trod enc Try.prog W 0 (fun _ => true) true k 64 [c1] = some y1 := h1
  have h2' : DataW.trod enc Try.prog W 0 (fun _ => true) true k 64 [c2] = some y2 := h2
  obtain ⟨s, hs, _⟩ := DataW.trod_bool Try.underlying4 h0'
  obtain ⟨ao, n, cap, f, rfl, hr, hlm, hnil, hc⟩ := viewL h1'
  obtain ⟨bo, m, cap', g, rfl, hr', hlm', hnil', hc'⟩ := viewL h2'
  simp at hs
  exact ⟨s, ao, n, cap, f, bo, m, cap', g, hs, rfl, rfl, hr, hlm, hc, hnil, hr', hlm', hc', hnil'⟩
/-- Cells in a row, each by itself. -/
theorem cells_at {w : World} {base n : Nat} {a : Addr} {cs : List Value} (h : w.cells? base a n = some cs) : cs.length = n ∧ ∀ i u, cs[i]? = some u → w.cell? (a.add i) = some u := by
  obtain ⟨_, h1, h2⟩ := World.cells?_some h
  refine ⟨h1, fun i u hi => ?_⟩
  have hlt : i < n := by rw [← h1]; exact (List.getElem?_eq_some_iff.1 hi).1
  rw [← hi]; exact h2 i hlt
theorem addr_add2 (a : Addr) (j i : Nat) : (a.add j).add i = a.add (j + i) := by
  obtain ⟨b, o, s⟩ := a
  by_cases hj : j = 0
  · subst hj; by_cases hi : i = 0
    · subst hi; simp [Addr.add]
    · simp [Addr.add, hi]
  · by_cases hi : i = 0
    · subst hi; simp [Addr.add, hj]
    · simp [Addr.add, hi, hj, Nat.add_assoc]
end Go.Proofs.Ytllpllebmknmpaa
namespace Go.Proofs.Ytllpllebmknmpaa
open Go.RowKit

def lstep (l e : Int) : Int := if l = 0 ∨ e ≠ 0 ∧ e < l then e else l
/-- The least of the first i errors. -/
def lsf (E : Nat → Int) : Nat → Int
  | 0 => 0
  | i + 1 => lstep (lsf E i) (E i)
def El (w : World) (ao : Option Addr) (k : Nat) (E : Nat → Int) : Prop := ∀ j, j < k → ∃ b o, ao = some ⟨b, o, none⟩ ∧ w.cell? ⟨b, o + j, none⟩ = some (.int .i64 (E j))
set_option maxRecDepth 100000 in
set_option maxHeartbeats 2000000 in
theorem least_c {w : World} {ao : Option Addr} {k cap : Nat} {E : Nat → Int} (h : El w ao k E) (hk : k ≤ 1048576) :
    Calls Try.prog 42 #[.slice ao k cap] w fun e w' => e = .returned (.int .i64 (lsf E k)) ∧ w' = w := by
  have H := hid h
  clear h
  go_enter Try.func42, Try.ntmps42
  go_wp2_with fail
  go_loopw [3, 8] (fun l t wr => ∃ (i : Nat) (v : Int), i ≤ k ∧ t = .int .i64 i ∧ l = .int .i64 v ∧ wr = w ∧ Hid (lsf E i = v)) (fun _ t _ => k - (intOf t).toNat)
  case atStart => exact ⟨0, 0, by omega, rfl, rfl, rfl, rfl⟩
  case round =>
    obtain ⟨i, v, hi, rfl, rfl, rfl, HI⟩ := hrel
    by_cases hlt : i < k
    · obtain ⟨b, o, rfl, hc⟩ := H.out i hlt
      obtain ⟨e, he⟩ : ∃ e, E i = e := ⟨_, rfl⟩
      have hT : lsf E (i + 1) = lstep v e := by show lstep (lsf E i) (E i) = _; rw [HI.out, he]
      rw [he] at hc
      have i1 : ((i : Nat) : Int) < ((k : Nat) : Int) := by omega
      clear he
      by_cases h0 : v = 0
      · subst h0
        have HT := hid (show lsf E (i + 1) = e from by rw [hT]; simp [lstep])
        clear hT
        go_wp2
        go_roundw
        case rel => exact ⟨i + 1, e, by omega, by go_num, rfl, trivial, HT.out⟩
        case measure => simp [intOf]; omega
      · have e0 : (v == 0) = false := by simpa using h0
        by_cases h1 : e = 0
        · subst h1
          have HT := hid (show lsf E (i + 1) = v from by rw [hT]; simp [lstep, h0])
          clear hT
          go_wp2
          go_roundw
          case rel => exact ⟨i + 1, v, by omega, by go_num, rfl, trivial, HT.out⟩
          case measure => simp [intOf]; omega
        · have e2 : (e != 0) = true := by simp [h1]
          by_cases h2 : e < v
          · have HT := hid (show lsf E (i + 1) = e from by rw [hT]; simp [lstep, h1, h2])
            clear hT
            go_wp2
            go_roundw
            case rel => exact ⟨i + 1, e, by omega, by go_num, rfl, trivial, HT.out⟩
            case measure => simp [intOf]; omega
          · have HT := hid (show lsf E (i + 1) = v from by rw [hT]; simp [lstep, h0, h2])
            clear hT
            go_wp2
            go_roundw
            case rel => exact ⟨i + 1, v, by omega, by go_num, rfl, trivial, HT.out⟩
            case measure => simp [intOf]; omega
    · have e1 : i = k := by omega
      have i2 : ¬ (((i : Nat) : Int) < ((k : Nat) : Int)) := by omega
      rw [e1] at HI
      clear e1
      go_wp2
      go_ret
      refine ⟨?_, rfl⟩
      rw [HI.out]; rfl
set_option maxRecDepth 100000 in
set_option maxHeartbeats 2000000 in
theorem fLeast_c {w : World} {ao : Option Addr} {k cap : Nat} {E : Nat → Int} (h : El w ao k E) (hk : k ≤ 1048576) :
    Calls Try.prog 20 #[.slice ao k cap] w fun e w' => e = .returned (.int .i64 (lsf E k)) ∧ w' = w := by
  have H := hid h
  clear h
  go_enter Try.func20, Try.ntmps20
  go_wp2_with fail
  go_loopw [3, 8] (fun l t wr => ∃ (i : Nat) (v : Int), i ≤ k ∧ t = .int .i64 i ∧ l = .int .i64 v ∧ wr = w ∧ Hid (lsf E i = v)) (fun _ t _ => k - (intOf t).toNat)
  case atStart => exact ⟨0, 0, by omega, rfl, rfl, rfl, rfl⟩
  case round =>
    obtain ⟨i, v, hi, rfl, rfl, rfl, HI⟩ := hrel
    by_cases hlt : i < k
    · obtain ⟨b, o, rfl, hc⟩ := H.out i hlt
      obtain ⟨e, he⟩ : ∃ e, E i = e := ⟨_, rfl⟩
      have hT : lsf E (i + 1) = lstep v e := by show lstep (lsf E i) (E i) = _; rw [HI.out, he]
      rw [he] at hc
      have i1 : ((i : Nat) : Int) < ((k : Nat) : Int) := by omega
      clear he
      by_cases h0 : v = 0
      · subst h0
        have HT := hid (show lsf E (i + 1) = e from by rw [hT]; simp [lstep])
        clear hT
        by_cases h9 : e = 0
        · subst h9
          go_wp2
          go_roundw
          case rel => exact ⟨i + 1, 0, by omega, by go_num, rfl, trivial, HT.out⟩
          case measure => simp [intOf]; omega
        · have e9 : (e != 0) = true := by simp [h9]
          go_wp2
          go_roundw
          case rel => exact ⟨i + 1, e, by omega, by go_num, rfl, trivial, HT.out⟩
          case measure => simp [intOf]; omega
      · have e0 : (v == 0) = false := by simpa using h0
        by_cases h1 : e = 0
        · subst h1
          have HT := hid (show lsf E (i + 1) = v from by rw [hT]; simp [lstep, h0])
          clear hT
          go_wp2
          go_roundw
          case rel => exact ⟨i + 1, v, by omega, by go_num, rfl, trivial, HT.out⟩
          case measure => simp [intOf]; omega
        · have e2 : (e != 0) = true := by simp [h1]
          by_cases h2 : e < v
          · have HT := hid (show lsf E (i + 1) = e from by rw [hT]; simp [lstep, h1, h2])
            clear hT
            go_wp2
            go_roundw
            case rel => exact ⟨i + 1, e, by omega, by go_num, rfl, trivial, HT.out⟩
            case measure => simp [intOf]; omega
          · have HT := hid (show lsf E (i + 1) = v from by rw [hT]; simp [lstep, h0, h2])
            clear hT
            go_wp2
            go_roundw
            case rel => exact ⟨i + 1, v, by omega, by go_num, rfl, trivial, HT.out⟩
            case measure => simp [intOf]; omega
    · have e1 : i = k := by omega
      have i2 : ¬ (((i : Nat) : Int) < ((k : Nat) : Int)) := by omega
      rw [e1] at HI
      clear e1
      go_wp2
      go_ret
      refine ⟨?_, rfl⟩
      rw [HI.out]; rfl
def two (a b : Int) (j : Nat) : Int := if j = 0 then a else b
theorem two_el {w : World} {a b : Int} {t : TypeId} : El (w.alloc (.cells #[.int .i64 a, .int .i64 b] t)) (some ⟨w.heap.size, 0, none⟩) 2 (two a b) := fun j hj => by
  refine ⟨_, 0, rfl, ?_⟩
  match j, hj with
  | 0, _ => simp [go_sem, two]
  | 1, _ => simp [go_sem, two]
end Go.Proofs.Ytllpllebmknmpaa
namespace Go.Proofs.Ytllpllebmknmpaa
open Go.ChangeShapes Go.WideShapes Go.ChangeAt Go.RowKit

theorem Try.readPt : Try.prog.readableRec 32 = true := by kernel_rfl
theorem Try.sizePt : 32 < Try.prog.types.size := of_decide_eq_true (by kernel_rfl)
theorem Try.cellsPt : Try.prog.cellsOf 32 = 3 := by kernel_rfl
/-- A struct of n fields: each is read by itself. -/
theorem fieldsN {H : Type} {enc : TypeId × Value → H} {P : Program} {w : World} {t : TypeId} {fs : Array Field} {fuel : Nat} {cs : List Value} {x : DataW H × List MemPlace} (ht : P.underlying t = some (.struct fs)) (h : DataW.trod enc P w 0 (fun _ => true) true fuel t cs = some x) :
    ∃ k, ∀ (i : Nat) (f : Field), fs[i]? = some f → ∃ y, DataW.trod enc P w 0 (fun _ => true) true k f.type ((cs.drop f.offset).take (P.cellsOf f.type)) = some y := by
  obtain ⟨xs, k, _, rfl, _, hlen, hf⟩ := DataW.trod_struct ht h
  refine ⟨k, fun i f hi => ?_⟩
  have hlt : i < xs.length := by rw [hlen]; exact (Array.getElem?_eq_some_iff.1 hi).1
  exact ⟨xs[i], by rw [hf i f hi, List.getElem?_eq_getElem hlt]⟩
set_option maxRecDepth 100000 in
/-- A list of numbers inside an argument. -/
theorem viewRsF {H : Type} {enc : TypeId × Value → H} {W : World} {fuel : Nat} {v : Value} {x : DataW H × List MemPlace} (hf : DataW.trod enc Try.prog W 0 (fun _ => true) true fuel 30 [v] = some x) :
    ∃ ao k c X, v = .slice ao k c ∧ Rr W ao k X ∧ (k ≤ c ∧ c ≤ 9223372036854775807) := by
  rcases Go.Deep.open_slice Try.underlying30 hf with ⟨hcs, _⟩ | ⟨a, len, cap, m, n, D, Pl, hcs, _, hl, hm, hmm, _, hel⟩
  · simp at hcs
    exact ⟨none, 0, 0, fun _ => ⟨false, none, 0, 0, fun _ => 0, none, 0, 0, fun _ => 0⟩, hcs, fun j hj => by omega, by omega, by omega⟩
  · simp at hcs
    subst hcs
    have hX : ∀ j, ∃ t : Nm, j < len → W.cell? (a.add (j * 3)) = some (.bool t.s) ∧ W.cell? (a.add (j * 3 + 1)) = some (.slice t.x t.n t.c) ∧ W.cell? (a.add (j * 3 + 2)) = some (.slice t.y t.m t.d) ∧ Rw W t.x t.n t.c t.f t.y t.m t.d t.g := fun j => by
      by_cases hj : j < len
      · obtain ⟨cs', h1, h2⟩ := hel j (by simp only [if_true] at hmm; omega)
        rw [Try.cellsR] at h1
        obtain ⟨h3, h4⟩ := cells_at h1
        match cs', h3 with
        | [c0, c1, c2], _ =>
          obtain ⟨s, x, n, c, f, y, m, b, g, rfl, rfl, rfl, hr⟩ := viewRc h2
          refine ⟨⟨s, x, n, c, f, y, m, b, g⟩, fun _ => ⟨?_, ?_, ?_, hr⟩⟩
          · have := h4 0 _ rfl; rwa [addr_add2, Nat.add_zero] at this
          · have := h4 1 _ rfl; rwa [addr_add2] at this
          · have := h4 2 _ rfl; rwa [addr_add2] at this
      · exact ⟨⟨false, none, 0, 0, fun _ => 0, none, 0, 0, fun _ => 0⟩, fun h => absurd h hj⟩
    obtain ⟨X, hY⟩ : ∃ X : Nat → Nm, ∀ j, j < len → W.cell? (a.add (j * 3)) = some (.bool (X j).s) ∧ W.cell? (a.add (j * 3 + 1)) = some (.slice (X j).x (X j).n (X j).c) ∧ W.cell? (a.add (j * 3 + 2)) = some (.slice (X j).y (X j).m (X j).d) ∧ Rw W (X j).x (X j).n (X j).c (X j).f (X j).y (X j).m (X j).d (X j).g := ⟨fun j => Classical.choose (hX j), fun j => Classical.choose_spec (hX j)⟩
    refine ⟨some a, len, cap, X, rfl, fun j hj => ?_, hl, by unfold maxLen at hm; omega⟩
    obtain ⟨h1, h2, h3, h4⟩ := hY j hj
    obtain ⟨h01, _⟩ := hY 0 (by omega)
    obtain ⟨b, off, spot⟩ := a
    have hspot : spot = none := by simpa [Addr.add] using World.cell?_spot h01
    subst hspot
    rw [addr_add] at h1 h2 h3
    exact ⟨b, off, rfl, ⟨h1, h2, h3⟩, h4⟩
set_option maxRecDepth 100000 in
/-- An argument that is a point. -/
theorem viewPt {H : Type} {enc : TypeId × Value → H} {W : World} {base : Nat} {v : Value} {d : DataW H} {p : List MemPlace} (hok : Value.okWide Try.prog W .any base 32 v) (h : DataW.Trod enc Try.prog W 0 (fun _ => true) true 32 v d p) :
    ∃ a0 k0 c0 X0 a1 k1 c1 X1 a2 k2 c2 X2, v = .agg #[.slice a0 k0 c0, .slice a1 k1 c1, .slice a2 k2 c2] ∧ (Rr W a0 k0 X0 ∧ k0 ≤ c0 ∧ c0 ≤ 9223372036854775807) ∧ (Rr W a1 k1 X1 ∧ k1 ≤ c1 ∧ c1 ≤ 9223372036854775807) ∧ (Rr W a2 k2 X2 ∧ k2 ≤ c2 ∧ c2 ≤ 9223372036854775807) := by
  obtain ⟨cs, rfl, hsz⟩ := okWide_struct Try.underlying32 hok
  rw [Try.cellsPt] at hsz
  obtain ⟨fuel, hf⟩ := h
  obtain ⟨l⟩ := cs
  match l, hsz with
  | [v0, v1, v2], _ =>
    obtain ⟨k, hk⟩ := fieldsN (fuel := fuel) Try.underlying32 hf
    obtain ⟨y0, g0⟩ := hk 0 _ rfl
    obtain ⟨y1, g1⟩ := hk 1 _ rfl
    obtain ⟨y2, g2⟩ := hk 2 _ rfl
    have g0' : DataW.trod enc Try.prog W 0 (fun _ => true) true k 30 [v0] = some y0 := g0
    have g1' : DataW.trod enc Try.prog W 0 (fun _ => true) true k 30 [v1] = some y1 := g1
    have g2' : DataW.trod enc Try.prog W 0 (fun _ => true) true k 30 [v2] = some y2 := g2
    obtain ⟨a0, k0, c0, X0, rfl, h0⟩ := viewRsF g0'
    obtain ⟨a1, k1, c1, X1, rfl, h1⟩ := viewRsF g1'
    obtain ⟨a2, k2, c2, X2, rfl, h2⟩ := viewRsF g2'
    exact ⟨a0, k0, c0, X0, a1, k1, c1, X1, a2, k2, c2, X2, rfl, h0, h1, h2⟩
end Go.Proofs.Ytllpllebmknmpaa

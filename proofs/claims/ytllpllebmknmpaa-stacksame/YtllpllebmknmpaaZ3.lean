/-
  Walks of package nat's greatest common divisor: gcd, Gcd. The walk of nat's call Gcd, whatever it is handed. Walks of package rat's helpers: isOne, one, gcd, over, numerator, denominator, signed. Rational numbers in form that can be read; the walks of package rat's add and mul. The walk of package rat's mul. Walks of package rat's calls Form, Add, Sub, Mul, Quo on numbers in form; the document's Same and Light. Lists of terms in memory; the walks of package vec's isZero and Form. Walks of the document's reference for whole: Form, From, Text, Read, DocText, DocRead. The walk of the document's reference for nat: Mul. Digits to the base 2^32 that can be read, with their number; the reference's Add, Sub, Mul on them. Walks of the document's reference for rat: word, Mk of short numbers. Walks of the document's reference for rat: Mk of short numbers. Walks of the document's reference for rat: To, DocMake of short numbers; the statements' own num. Walks of the statements' own num, and of package rat's calls Make and Floor. The walk of package rat's call Floor. Walks of package rat's clone, Copy and Neg. Lists of rational numbers in memory; the walks of package vec's allForm, allBelow, plus and times. Walks of the document's Same and Light of rational numbers, and of the statements' own light. The statements' looks at how long the numbers of lists are (light, Lights). What the rows of this seat share: how arguments that are rational numbers, lists of numbers and lists of terms are opened. The seat's rows list no tables. The walks of Least, of package model and of the reference. How arguments that are points, bases and certificates are opened. Rows of structs that a call makes by append, none of whose cells is a limb: what stays when they are written. No Go text is named here. Blocks that are told whole, and what is written into them. The walk of package vec's putter (gather's own function). Lists of terms in form, as values; the walk of package vec's merge. The walks of package vec's gather and of the call Plus, on lists in form. Lists of terms in form have values; the walk of package vec's call Plus, whatever it is handed. The walks of package vec's calls Scale and Sparse, whatever they are handed. The walk of package vec's call Sparse, whatever it is handed. How long rational numbers are, by their values: sums and products. The call Dot of package vec, on lists in form whose columns lie below the number of the numbers. Package vec's call At. Lists of terms and lists of numbers, as values: sums, products with numbers, there and back. No Go text is named here. Between lists in memory and their values; rows of numbers that are made and written; the walk of package vec's call Dense, whatever it is handed. The walk of package vec's call Dense, whatever it is handed. Package vec's call Dot where it answers an error. The walk of the document's reference for nat: bit, Bits, DivMod. Walks of nat.Shl and of the document's reference: Shl, DocShl. The walk of the document's reference for nat: half, Gcd. The walk of the document's reference for nat: Gcd. Walks of the document's reference for nat: DocMul, DocDivMod, DocGcd. Walks of the document's reference for whole: Neg, Add, Sub, Mul, Sign, Cmp. Walks of the document's reference for whole: Sub, Sign, Cmp, two, DocNeg, DocCmp. Walks of the document's reference for whole: DocNeg, DocCmp, Doc. Walks of the document's reference for rat: Form. Walks of the document's reference for rat: Mk, whatever the numbers' lengths. Walks of the document's reference for rat: From, Neg, Sign, Add. Walks of the document's reference for whole: Divide. The walk of package rat's call Cmp. Walks of the document's reference for rat: Add, Sub, Cmp. Walks of rat's Sign and Cmp, whatever they are handed, and of the document's: DocSign, DocCmp. Walks of the document's reference for rat: Mul, Quo, Int, To, DocOf, DocNeg. Walks of rat's calls where they tell that a number is not in form, and of the document's Doc, DocNeg there; DocNeg. Walks of the document's reference for rat: Int, DocOf. The walk of the document's reference for rat: Doc, of numbers in form. Walks of rat's Add, Sub, Mul, Quo, whatever they are handed, and of the statements' call. The walk of rat.Of. Boxes of four cells. No Go text is named here. Package vec's calls on lists in form, by their values; lists that are put together by their terms. append to a row of structs in a region that draws its order. No Go text is named here. Walks of the document's reference for rat: Twin; the same digits elsewhere. The walk of the reference's Twin of a list of terms. The walk of the reference's From of a list of terms. Walks of the reference's Twins, Forms and Froms of lists of numbers. A stack without steps in memory; the walks of stack.New, Size and Tightened, of point.Numbers, of rat.Copy (with its owners) and of stack.copied.
-/
import Derived.Test.YtllpllebmknmpaaZ2
import Derived.Test.YtllpllebmknmpaaRows
import Derived.Test.YtllpllebmknmpaaChecked
import Derived.ProofKit
import Derived.OpenShut
import Derived.ChangeSame
import Derived.Deep.Slices
import Derived.Deep.DeepHandedRow
import Derived.BigQuiet
import Derived.Deep.RegionHeld3
import Derived.Test.YtllpllebmknmpaaZ1
namespace Go.Proofs.Ytllpllebmknmpaa
open Go.RowKit

theorem cd_gcd {u v A B : Int} (h : Cd u v A B) (u0 : 0 ≤ u) (v0 : 0 ≤ v) (A0 : 0 ≤ A) (B0 : 0 ≤ B) : Nat.gcd u.toNat v.toNat = Nat.gcd A.toNat B.toNat := by
  have key : ∀ {p q r s : Int}, Cd p q r s → 0 ≤ p → 0 ≤ q → 0 ≤ r → 0 ≤ s → Nat.gcd p.toNat q.toNat ∣ Nat.gcd r.toNat s.toNat := by
    intro p q r s h p0 q0 r0 s0
    have h1 : ((Nat.gcd p.toNat q.toNat : Nat) : Int) ∣ p := by
      have := Int.natCast_dvd_natCast.2 (Nat.gcd_dvd_left p.toNat q.toNat)
      rwa [Int.toNat_of_nonneg p0] at this
    have h2 : ((Nat.gcd p.toNat q.toNat : Nat) : Int) ∣ q := by
      have := Int.natCast_dvd_natCast.2 (Nat.gcd_dvd_right p.toNat q.toNat)
      rwa [Int.toNat_of_nonneg q0] at this
    obtain ⟨h3, h4⟩ := (h _).1 ⟨h1, h2⟩
    refine Nat.dvd_gcd ?_ ?_
    · apply Int.natCast_dvd_natCast.1; rwa [Int.toNat_of_nonneg r0]
    · apply Int.natCast_dvd_natCast.1; rwa [Int.toNat_of_nonneg s0]
  exact Nat.dvd_antisymm (key h u0 v0 A0 B0) (key (fun d => (h d).symm) A0 B0 u0 v0)

set_option maxRecDepth 100000 in
set_option maxHeartbeats 8000000 in
theorem gcd_c (ao bo : Option Addr) (n m ca cb : Nat) (f h : Nat → Int) (w : World) (hn : n ≤ 8796093022207) (hm : m ≤ 8796093022207) (hr : Rd .u64 w ao n f) (hs : Rd .u64 w bo m h) (hf : Lm f n) (hh : Lm h m) (ff : Fm f n) (fh : Fm h m) :
    Calls Try.prog 74 #[.slice ao n ca, .slice bo m cb] w fun e w' => ∃ ao' k cap' f', e = .returned (.slice ao' k cap') ∧ Res (max n m + 1) w w' ao' k cap' f' ∧ vf f' k = (Nat.gcd (vf f n).toNat (vf h m).toNat : Nat) := by
  have CC := hid (cmp_c ao bo n m ca cb f h w (by omega) (by omega) hr hs hf hh ff fh)
  have HRa := hid hr; have HRb := hid hs; have HLa := hid hf; have HLb := hid hh; have HFa := hid ff; have HFb := hid fh
  clear hr hs hf hh ff fh
  by_cases hlt : vf f n < vf h m
  · skip
    have HLt := hid hlt
    clear hlt
    rcases (show n = 0 ∨ n = 1 ∨ 2 ≤ n by omega) with hb0 | hb1 | hb2
    · have hBz : vf f n = 0 := by rw [hb0]; rfl
      have HBz := hid hBz
      subst hb0
      clear hBz
      go_enter Try.func74, Try.ntmps74
      go_wp2_with fail
      refine CC.out.mono ?_
      rintro e w1 ⟨⟨q, rfl⟩, c, rfl, ho⟩
      have hc : c = -1 := by have := HLt.out; unfold Ord at ho; omega
      subst hc
      clear ho
      go_wp2_with fail
      refine (clone_c bo m cb h _ (by omega) (show Rd .u64 (w.drewN q) bo m h from HRb.out) HLb.out).mono ?_
      rintro e w9 ⟨xr, kr, cr, rfl, hres, hkr, hv⟩
      have HRS := hid hres; have HVr := hid hv
      clear hres hv
      go_wp2
      go_ret
      refine ⟨xr, kr, cr, h, rfl, (HRS.out.ahead (below_drewN (Below.refl w.heap.size w) q)).mono (by omega), ?_⟩
      rw [HVr.out, show vf h m = vf h m from rfl]
      rw [show vf f 0 = 0 from rfl]; rw [Nat.gcd_comm]; simp [Int.toNat_of_nonneg (vf_nonneg HLb.out)]
    · subst hb1
      obtain ⟨bb, ob, rfl⟩ := HRa.out.at (by omega)
      obtain ⟨x, hx⟩ : ∃ x, f 0 = x := ⟨_, rfl⟩
      have hcell : w.cell? ⟨bb, ob, none⟩ = some (.int .u64 x) := by rw [← hx]; exact HRa.out.cell (j := 0) (by omega)
      have hx01 := HLa.out 0 (by omega)
      have hx2 : x ≠ 0 := by rw [← hx]; rcases HFa.out with h | h; omega; exact h
      rw [hx] at hx01
      obtain ⟨xn, rfl⟩ := Int.eq_ofNat_of_zero_le hx01.1
      have HVB := hid (show vf f 1 = (xn : Int) by simp [vf, pw, hx])
      clear hx
      go_enter Try.func74, Try.ntmps74
      go_wp2_with fail
      refine CC.out.mono ?_
      rintro e w1 ⟨⟨q, rfl⟩, c, rfl, ho⟩
      have hc : c = -1 := by have := HLt.out; unfold Ord at ho; omega
      subst hc
      clear ho
      have hA0 := vf_nonneg HLb.out
      obtain ⟨R, hR⟩ : ∃ R : Nat, (vf h m % (xn : Int)) = R := ⟨(vf h m % (xn : Int)).toNat, by have := Int.emod_nonneg (vf h m) (show (xn : Int) ≠ 0 by omega); omega⟩
      have hR1 : (R : Int) < xn := by rw [← hR]; exact Int.emod_lt_of_pos _ (by omega)
      have cm := fun W hr' => modWord_c bo m cb h xn W (by omega) hr' HLb.out (by omega) (by omega)
      rw [hR] at cm
      have cg := fun W => gcdWord_c xn R W (by omega) (by omega)
      have hgl : Nat.gcd xn R < 18446744073709551616 := Nat.lt_of_le_of_lt (Nat.gcd_le_left _ (by omega)) (by omega)
      have hfin : Nat.gcd xn R = Nat.gcd (vf h m).toNat xn := by
        have e : R = (vf h m).toNat % xn := by
          have : ((vf h m).toNat : Int) = vf h m := Int.toNat_of_nonneg hA0
          have h2 : (((vf h m).toNat % xn : Nat) : Int) = vf h m % (xn : Int) := by rw [Int.natCast_emod, this]
          omega
        rw [e, Nat.gcd_comm (vf h m).toNat xn, Nat.gcd_rec xn (vf h m).toNat, Nat.gcd_comm]
      generalize Nat.gcd xn R = G at *
      have CM := hid cm; have CG := hid cg; have HFin := hid hfin; have HRd := hid (show Rd .u64 (w.drewN q) bo m h from HRb.out)
      clear cm cg hfin hR hA0
      go_wp2
      go_region_with (first | (go_at_call 80; refine (CM.out _ (by exact HRd.out)).mono ?_; rintro e w' ⟨rfl, q1, rfl⟩) | (go_at_call 79; refine (CG.out _).mono ?_; rintro e w' ⟨rfl, q2, rfl⟩) | (go_at_call 78; refine (fromWord_c G _ (by omega) (by omega)).mono ?_; rintro e w' ⟨xr, kr, cr, fr, rfl, hres, hv'⟩))
      all_goals
        go_wp2
        go_ret
        refine ⟨xr, kr, cr, fr, rfl, (hres.ahead (by repeat (first | exact (below_drewN (Below.refl w.heap.size w) q) | exact Below.refl _ _ | refine below_drewN ?_ _ | refine Below.drew ?_))).mono (by omega), ?_⟩
        rw [hv', HFin.out, HVB.out]
        rw [Int.toNat_natCast, Nat.gcd_comm]
    · have CA := hid (fun W (hW : Rd .u64 W bo m h) => clone_c bo m cb h W (by omega) hW HLb.out)
      have CB := hid (fun W (hW : Rd .u64 W ao n f) => clone_c ao n ca f W (by omega) hW HLa.out)
      have d1 : decide ((1 : Int) < (n : Int)) = true := by simp; omega
      go_enter Try.func74, Try.ntmps74
      go_wp2_with fail
      refine CC.out.mono ?_
      rintro e w1 ⟨⟨q, rfl⟩, c, rfl, ho⟩
      have hc : c = -1 := by have := HLt.out; unfold Ord at ho; omega
      subst hc
      clear ho
      go_wp2_with fail
      refine (CA.out _ (by exact HRb.out)).mono ?_
      rintro e w2 ⟨xa', ka, ca', rfl, hresa, hka, hva⟩
      have hRb2 := HRa.out.below (show Below w.heap.size w w2 from ⟨hresa.bel.os, hresa.bel.tape, hresa.bel.output, hresa.bel.size, hresa.bel.block⟩) (Nat.le_refl _)
      have RESA := hid hresa; have HVa := hid hva; have HRb2 := hid hRb2
      clear hresa hva hRb2 CA
      go_wp2_with fail
      refine (CB.out _ HRb2.out).mono ?_
      rintro e w3 ⟨xb', kb, cb', rfl, hresb, hkb, hvb⟩
      have hTwo : Two w.heap.size w3 xa' ka ca' xb' kb cb' (vf h m) (vf f n) := by
        have hz : w.heap.size ≤ w2.heap.size := RESA.out.bel.size
        have hBp : 0 < vf f n := by have := vf_form_ge HLa.out HFa.out (by omega); have := pw_pos (n - 1); omega
        have hle : vf f n ≤ vf h m := by have := HLt.out; omega
        rcases RESA.out.own with ⟨_, h0, _⟩ | ⟨ga, e1, e2, e3, e4, e5, e6⟩
        · have := HVa.out; rw [h0] at this; simp [vf] at this; omega
        · rcases hresb.own with ⟨_, h0, _⟩ | ⟨gb, f1, f2, f3, f4, f5, f6⟩
          · rw [h0] at hvb; simp [vf] at hvb; omega
          · refine ⟨ga, ⟨h, e1, e3, e4, by omega, by simpa using e2, e6.below hresb.bel e6.lt, RESA.out.lmc, RESA.out.fm, HVa.out⟩, by omega, hle, .inr ⟨gb, ?_, f, f1, f3, f4, by omega, by omega, f6, hresb.lmc, hresb.fm, hvb⟩⟩
            have := e6.lt; omega
      have hb3 : Below w.heap.size w w3 := (show Below w.heap.size w w2 from ⟨RESA.out.bel.os, RESA.out.bel.tape, RESA.out.bel.output, RESA.out.bel.size, RESA.out.bel.block⟩).trans (hresb.bel.mono RESA.out.bel.size)
      have CS := hid (shorten_c w.heap.size xa' xb' ka ca' kb cb' m (vf h m) (vf f n) w3 hTwo (vf_lt HLb.out) (by omega) hb3.size)
      have BE3 := hid hb3
      clear hTwo hb3 hresb hvb RESA HVa HRb2 CB d1
      go_wp2_with fail
      refine CS.out.mono ?_
      rintro e w4 ⟨y1, l1, d1, y2, l2, d2, A', B', rfl, hb4, hT, hC, hl2, hA'⟩
      obtain ⟨g1, ⟨P, rfl, o1, o2, o3, o4, hbP, lP, fP, vP⟩, B0, BA, h2⟩ := hT
      have BE4 := hid (BE3.out.trans hb4)
      have HCd := hid hC
      have hl1 : l1 ≤ m := by
        have := vf_lt HLb.out
        exact mid_len (lP.mono o2) fP (by rw [vP]; omega)
      have HP := hid (hbP.rd0 o2); have LP := hid (lP.mono o2); have VP := hid vP
      clear hb4 hC hbP lP fP vP CS
      have hgc : Hid (Nat.gcd A'.toNat B'.toNat = Nat.gcd (vf h m).toNat (vf f n).toNat) := cd_gcd HCd.out (by omega) B0 (vf_nonneg HLb.out) (vf_nonneg HLa.out)
      rcases h2 with ⟨rfl, rfl, rfl, rfl⟩ | ⟨g2, hne, Q, rfl, u1, u2, u3, u4, hbQ, lQ, fQ, vQ⟩
      · have hA0 : 0 ≤ A' := by omega
        clear B0 BA
        go_wp2_with fail
        refine (clone_c (some ⟨g1, 0, none⟩) l1 d1 P _ (by omega) HP.out LP.out).mono ?_
        rintro e w9 ⟨xr, kr, cr, rfl, hres, hkr, hv⟩
        have HRS := hid hres; have HVr := hid hv
        clear hres hv
        go_wp2
        go_ret
        refine ⟨xr, kr, cr, P, rfl, (HRS.out.ahead BE4.out).mono (by omega), ?_⟩
        rw [HVr.out, VP.out]
        rw [Nat.gcd_comm]; rw [← hgc.out]; simp [Int.toNat_of_nonneg hA0]
      · obtain rfl : l2 = 1 := by omega
        obtain ⟨x, hx⟩ : ∃ x, Q 0 = x := ⟨_, rfl⟩
        have hcell : w4.cell? ⟨g2, 0, none⟩ = some (.int .u64 x) := by rw [← hx]; exact hbQ.cell (j := 0) (by omega)
        have hx01 := lQ 0 (by omega)
        have hx2 : x ≠ 0 := by rw [← hx]; rcases fQ with h | h; omega; exact h
        rw [hx] at hx01
        obtain ⟨xn, rfl⟩ := Int.eq_ofNat_of_zero_le hx01.1
        have hvB : B' = (xn : Int) := by rw [← vQ]; simp [vf, pw, hx]
        subst hvB
        clear hx hbQ lQ fQ vQ B0 BA
        have hA0 := vf_nonneg LP.out
        obtain ⟨R, hR⟩ : ∃ R : Nat, (vf P l1 % (xn : Int)) = R := ⟨(vf P l1 % (xn : Int)).toNat, by have := Int.emod_nonneg (vf P l1) (show (xn : Int) ≠ 0 by omega); omega⟩
        have hR1 : (R : Int) < xn := by rw [← hR]; exact Int.emod_lt_of_pos _ (by omega)
        have cm := fun W hr' => modWord_c (some ⟨g1, 0, none⟩) l1 d1 P xn W (by omega) hr' LP.out (by omega) (by omega)
        rw [hR] at cm
        have cg := fun W => gcdWord_c xn R W (by omega) (by omega)
        have hgl : Nat.gcd xn R < 18446744073709551616 := Nat.lt_of_le_of_lt (Nat.gcd_le_left _ (by omega)) (by omega)
        have hfin : Nat.gcd xn R = Nat.gcd (vf P l1).toNat xn := by
          have e : R = (vf P l1).toNat % xn := by
            have : ((vf P l1).toNat : Int) = vf P l1 := Int.toNat_of_nonneg hA0
            have h2 : (((vf P l1).toNat % xn : Nat) : Int) = vf P l1 % (xn : Int) := by rw [Int.natCast_emod, this]
            omega
          rw [e, Nat.gcd_comm (vf P l1).toNat xn, Nat.gcd_rec xn (vf P l1).toNat, Nat.gcd_comm]
        generalize Nat.gcd xn R = G at *
        have CM := hid cm; have CG := hid cg; have HFin := hid hfin; have HRd := hid HP.out
        clear cm cg hfin hR hA0
        go_wp2
        go_region_with (first | (go_at_call 80; refine (CM.out _ (by exact HRd.out)).mono ?_; rintro e w' ⟨rfl, q1, rfl⟩) | (go_at_call 79; refine (CG.out _).mono ?_; rintro e w' ⟨rfl, q2, rfl⟩) | (go_at_call 78; refine (fromWord_c G _ (by omega) (by omega)).mono ?_; rintro e w' ⟨xr, kr, cr, fr, rfl, hres, hv'⟩))
        all_goals
          go_wp2
          go_ret
          refine ⟨xr, kr, cr, fr, rfl, (hres.ahead (by repeat (first | exact BE4.out | exact Below.refl _ _ | refine below_drewN ?_ _ | refine Below.drew ?_))).mono (by omega), ?_⟩
          rw [hv', HFin.out, VP.out]
          rw [Nat.gcd_comm (vf f n).toNat, ← hgc.out, Int.toNat_natCast]
  · skip
    have HLt := hid hlt
    clear hlt
    rcases (show m = 0 ∨ m = 1 ∨ 2 ≤ m by omega) with hb0 | hb1 | hb2
    · have hBz : vf h m = 0 := by rw [hb0]; rfl
      have HBz := hid hBz
      subst hb0
      clear hBz
      go_enter Try.func74, Try.ntmps74
      go_wp2_with fail
      refine CC.out.mono ?_
      rintro e w1 ⟨⟨q, rfl⟩, c, rfl, ho⟩
      have hc : 0 ≤ c := by have := HLt.out; unfold Ord at ho; omega
      clear ho
      go_wp2_with fail
      refine (clone_c ao n ca f _ (by omega) (show Rd .u64 (w.drewN q) ao n f from HRa.out) HLa.out).mono ?_
      rintro e w9 ⟨xr, kr, cr, rfl, hres, hkr, hv⟩
      have HRS := hid hres; have HVr := hid hv
      clear hres hv
      go_wp2
      go_ret
      refine ⟨xr, kr, cr, f, rfl, (HRS.out.ahead (below_drewN (Below.refl w.heap.size w) q)).mono (by omega), ?_⟩
      rw [HVr.out, show vf f n = vf f n from rfl]
      rw [show vf h 0 = 0 from rfl]; simp [Int.toNat_of_nonneg (vf_nonneg HLa.out)]
    · subst hb1
      obtain ⟨bb, ob, rfl⟩ := HRb.out.at (by omega)
      obtain ⟨x, hx⟩ : ∃ x, h 0 = x := ⟨_, rfl⟩
      have hcell : w.cell? ⟨bb, ob, none⟩ = some (.int .u64 x) := by rw [← hx]; exact HRb.out.cell (j := 0) (by omega)
      have hx01 := HLb.out 0 (by omega)
      have hx2 : x ≠ 0 := by rw [← hx]; rcases HFb.out with h | h; omega; exact h
      rw [hx] at hx01
      obtain ⟨xn, rfl⟩ := Int.eq_ofNat_of_zero_le hx01.1
      have HVB := hid (show vf h 1 = (xn : Int) by simp [vf, pw, hx])
      clear hx
      go_enter Try.func74, Try.ntmps74
      go_wp2_with fail
      refine CC.out.mono ?_
      rintro e w1 ⟨⟨q, rfl⟩, c, rfl, ho⟩
      have hc : 0 ≤ c := by have := HLt.out; unfold Ord at ho; omega
      clear ho
      have hA0 := vf_nonneg HLa.out
      obtain ⟨R, hR⟩ : ∃ R : Nat, (vf f n % (xn : Int)) = R := ⟨(vf f n % (xn : Int)).toNat, by have := Int.emod_nonneg (vf f n) (show (xn : Int) ≠ 0 by omega); omega⟩
      have hR1 : (R : Int) < xn := by rw [← hR]; exact Int.emod_lt_of_pos _ (by omega)
      have cm := fun W hr' => modWord_c ao n ca f xn W (by omega) hr' HLa.out (by omega) (by omega)
      rw [hR] at cm
      have cg := fun W => gcdWord_c xn R W (by omega) (by omega)
      have hgl : Nat.gcd xn R < 18446744073709551616 := Nat.lt_of_le_of_lt (Nat.gcd_le_left _ (by omega)) (by omega)
      have hfin : Nat.gcd xn R = Nat.gcd (vf f n).toNat xn := by
        have e : R = (vf f n).toNat % xn := by
          have : ((vf f n).toNat : Int) = vf f n := Int.toNat_of_nonneg hA0
          have h2 : (((vf f n).toNat % xn : Nat) : Int) = vf f n % (xn : Int) := by rw [Int.natCast_emod, this]
          omega
        rw [e, Nat.gcd_comm (vf f n).toNat xn, Nat.gcd_rec xn (vf f n).toNat, Nat.gcd_comm]
      generalize Nat.gcd xn R = G at *
      have CM := hid cm; have CG := hid cg; have HFin := hid hfin; have HRd := hid (show Rd .u64 (w.drewN q) ao n f from HRa.out)
      clear cm cg hfin hR hA0
      go_wp2
      go_region_with (first | (go_at_call 80; refine (CM.out _ (by exact HRd.out)).mono ?_; rintro e w' ⟨rfl, q1, rfl⟩) | (go_at_call 79; refine (CG.out _).mono ?_; rintro e w' ⟨rfl, q2, rfl⟩) | (go_at_call 78; refine (fromWord_c G _ (by omega) (by omega)).mono ?_; rintro e w' ⟨xr, kr, cr, fr, rfl, hres, hv'⟩))
      all_goals
        go_wp2
        go_ret
        refine ⟨xr, kr, cr, fr, rfl, (hres.ahead (by repeat (first | exact (below_drewN (Below.refl w.heap.size w) q) | exact Below.refl _ _ | refine below_drewN ?_ _ | refine Below.drew ?_))).mono (by omega), ?_⟩
        rw [hv', HFin.out, HVB.out]
        rw [Int.toNat_natCast]
    · have CA := hid (fun W (hW : Rd .u64 W ao n f) => clone_c ao n ca f W (by omega) hW HLa.out)
      have CB := hid (fun W (hW : Rd .u64 W bo m h) => clone_c bo m cb h W (by omega) hW HLb.out)
      have d1 : decide ((1 : Int) < (m : Int)) = true := by simp; omega
      go_enter Try.func74, Try.ntmps74
      go_wp2_with fail
      refine CC.out.mono ?_
      rintro e w1 ⟨⟨q, rfl⟩, c, rfl, ho⟩
      have hc : 0 ≤ c := by have := HLt.out; unfold Ord at ho; omega
      clear ho
      go_wp2_with fail
      refine (CA.out _ (by exact HRa.out)).mono ?_
      rintro e w2 ⟨xa', ka, ca', rfl, hresa, hka, hva⟩
      have hRb2 := HRb.out.below (show Below w.heap.size w w2 from ⟨hresa.bel.os, hresa.bel.tape, hresa.bel.output, hresa.bel.size, hresa.bel.block⟩) (Nat.le_refl _)
      have RESA := hid hresa; have HVa := hid hva; have HRb2 := hid hRb2
      clear hresa hva hRb2 CA
      go_wp2_with fail
      refine (CB.out _ HRb2.out).mono ?_
      rintro e w3 ⟨xb', kb, cb', rfl, hresb, hkb, hvb⟩
      have hTwo : Two w.heap.size w3 xa' ka ca' xb' kb cb' (vf f n) (vf h m) := by
        have hz : w.heap.size ≤ w2.heap.size := RESA.out.bel.size
        have hBp : 0 < vf h m := by have := vf_form_ge HLb.out HFb.out (by omega); have := pw_pos (m - 1); omega
        have hle : vf h m ≤ vf f n := by have := HLt.out; omega
        rcases RESA.out.own with ⟨_, h0, _⟩ | ⟨ga, e1, e2, e3, e4, e5, e6⟩
        · have := HVa.out; rw [h0] at this; simp [vf] at this; omega
        · rcases hresb.own with ⟨_, h0, _⟩ | ⟨gb, f1, f2, f3, f4, f5, f6⟩
          · rw [h0] at hvb; simp [vf] at hvb; omega
          · refine ⟨ga, ⟨f, e1, e3, e4, by omega, by simpa using e2, e6.below hresb.bel e6.lt, RESA.out.lmc, RESA.out.fm, HVa.out⟩, by omega, hle, .inr ⟨gb, ?_, h, f1, f3, f4, by omega, by omega, f6, hresb.lmc, hresb.fm, hvb⟩⟩
            have := e6.lt; omega
      have hb3 : Below w.heap.size w w3 := (show Below w.heap.size w w2 from ⟨RESA.out.bel.os, RESA.out.bel.tape, RESA.out.bel.output, RESA.out.bel.size, RESA.out.bel.block⟩).trans (hresb.bel.mono RESA.out.bel.size)
      have CS := hid (shorten_c w.heap.size xa' xb' ka ca' kb cb' n (vf f n) (vf h m) w3 hTwo (vf_lt HLa.out) (by omega) hb3.size)
      have BE3 := hid hb3
      clear hTwo hb3 hresb hvb RESA HVa HRb2 CB d1
      go_wp2_with fail
      refine CS.out.mono ?_
      rintro e w4 ⟨y1, l1, d1, y2, l2, d2, A', B', rfl, hb4, hT, hC, hl2, hA'⟩
      obtain ⟨g1, ⟨P, rfl, o1, o2, o3, o4, hbP, lP, fP, vP⟩, B0, BA, h2⟩ := hT
      have BE4 := hid (BE3.out.trans hb4)
      have HCd := hid hC
      have hl1 : l1 ≤ n := by
        have := vf_lt HLa.out
        exact mid_len (lP.mono o2) fP (by rw [vP]; omega)
      have HP := hid (hbP.rd0 o2); have LP := hid (lP.mono o2); have VP := hid vP
      clear hb4 hC hbP lP fP vP CS
      have hgc : Hid (Nat.gcd A'.toNat B'.toNat = Nat.gcd (vf f n).toNat (vf h m).toNat) := cd_gcd HCd.out (by omega) B0 (vf_nonneg HLa.out) (vf_nonneg HLb.out)
      rcases h2 with ⟨rfl, rfl, rfl, rfl⟩ | ⟨g2, hne, Q, rfl, u1, u2, u3, u4, hbQ, lQ, fQ, vQ⟩
      · have hA0 : 0 ≤ A' := by omega
        clear B0 BA
        go_wp2_with fail
        refine (clone_c (some ⟨g1, 0, none⟩) l1 d1 P _ (by omega) HP.out LP.out).mono ?_
        rintro e w9 ⟨xr, kr, cr, rfl, hres, hkr, hv⟩
        have HRS := hid hres; have HVr := hid hv
        clear hres hv
        go_wp2
        go_ret
        refine ⟨xr, kr, cr, P, rfl, (HRS.out.ahead BE4.out).mono (by omega), ?_⟩
        rw [HVr.out, VP.out]
        rw [← hgc.out]; simp [Int.toNat_of_nonneg hA0]
      · obtain rfl : l2 = 1 := by omega
        obtain ⟨x, hx⟩ : ∃ x, Q 0 = x := ⟨_, rfl⟩
        have hcell : w4.cell? ⟨g2, 0, none⟩ = some (.int .u64 x) := by rw [← hx]; exact hbQ.cell (j := 0) (by omega)
        have hx01 := lQ 0 (by omega)
        have hx2 : x ≠ 0 := by rw [← hx]; rcases fQ with h | h; omega; exact h
        rw [hx] at hx01
        obtain ⟨xn, rfl⟩ := Int.eq_ofNat_of_zero_le hx01.1
        have hvB : B' = (xn : Int) := by rw [← vQ]; simp [vf, pw, hx]
        subst hvB
        clear hx hbQ lQ fQ vQ B0 BA
        have hA0 := vf_nonneg LP.out
        obtain ⟨R, hR⟩ : ∃ R : Nat, (vf P l1 % (xn : Int)) = R := ⟨(vf P l1 % (xn : Int)).toNat, by have := Int.emod_nonneg (vf P l1) (show (xn : Int) ≠ 0 by omega); omega⟩
        have hR1 : (R : Int) < xn := by rw [← hR]; exact Int.emod_lt_of_pos _ (by omega)
        have cm := fun W hr' => modWord_c (some ⟨g1, 0, none⟩) l1 d1 P xn W (by omega) hr' LP.out (by omega) (by omega)
        rw [hR] at cm
        have cg := fun W => gcdWord_c xn R W (by omega) (by omega)
        have hgl : Nat.gcd xn R < 18446744073709551616 := Nat.lt_of_le_of_lt (Nat.gcd_le_left _ (by omega)) (by omega)
        have hfin : Nat.gcd xn R = Nat.gcd (vf P l1).toNat xn := by
          have e : R = (vf P l1).toNat % xn := by
            have : ((vf P l1).toNat : Int) = vf P l1 := Int.toNat_of_nonneg hA0
            have h2 : (((vf P l1).toNat % xn : Nat) : Int) = vf P l1 % (xn : Int) := by rw [Int.natCast_emod, this]
            omega
          rw [e, Nat.gcd_comm (vf P l1).toNat xn, Nat.gcd_rec xn (vf P l1).toNat, Nat.gcd_comm]
        generalize Nat.gcd xn R = G at *
        have CM := hid cm; have CG := hid cg; have HFin := hid hfin; have HRd := hid HP.out
        clear cm cg hfin hR hA0
        go_wp2
        go_region_with (first | (go_at_call 80; refine (CM.out _ (by exact HRd.out)).mono ?_; rintro e w' ⟨rfl, q1, rfl⟩) | (go_at_call 79; refine (CG.out _).mono ?_; rintro e w' ⟨rfl, q2, rfl⟩) | (go_at_call 78; refine (fromWord_c G _ (by omega) (by omega)).mono ?_; rintro e w' ⟨xr, kr, cr, fr, rfl, hres, hv'⟩))
        all_goals
          go_wp2
          go_ret
          refine ⟨xr, kr, cr, fr, rfl, (hres.ahead (by repeat (first | exact BE4.out | exact Below.refl _ _ | refine below_drewN ?_ _ | refine Below.drew ?_))).mono (by omega), ?_⟩
          rw [hv', HFin.out, VP.out]
          rw [← hgc.out, Int.toNat_natCast]
end Go.Proofs.Ytllpllebmknmpaa
namespace Go.Proofs.Ytllpllebmknmpaa
open Go.RowKit

set_option maxHeartbeats 800000 in
theorem Gcd_c (ao bo : Option Addr) (n m ca cb : Nat) (f h : Nat → Int) (w : World) (hn : n ≤ 8796093022207) (hm : m ≤ 8796093022207) (hr : Rd .u64 w ao n f) (hs : Rd .u64 w bo m h) (hf : Lm f n) (hh : Lm h m) :
    Calls Try.prog 73 #[.slice ao n ca, .slice bo m cb] w fun e w' => ∃ ao' k cap' f' er, e = .returned (.tuple #[.slice ao' k cap', .int .i64 er]) ∧ Res (max n m + 1) w w' ao' k cap' f' ∧
      (Fm f n ∧ Fm h m ∧ er = 0 ∧ vf f' k = (Nat.gcd (vf f n).toNat (vf h m).toNat : Nat) ∨ ¬ (Fm f n ∧ Fm h m) ∧ er = 3 ∧ k = 0) := by
  have HF := (show Hid (Lm f n) from hf)
  have HH := (show Hid (Lm h m) from hh)
  clear hf hh
  cases hfa : fmB f n
  · have c1 := fun w' hr' => form_c ao n ca f w' (by omega) hr'
    rw [hfa] at c1
    have HN := hid (nfm_of hfa)
    have C1 := hid c1
    clear c1 hfa
    go_enter Try.func73, Try.ntmps73
    go_wp2_with (go_at_call 63; refine (C1.out _ hr).mono ?_; rintro e w' ⟨rfl, rfl⟩)
    go_ret2
    exact ⟨_, _, _, f, _, rfl, Res.nil f (Below.refl _ _), .inr ⟨fun x => HN.out x.1, rfl, rfl⟩⟩
  · have c1 := fun w' hr' => form_c ao n ca f w' (by omega) hr'
    rw [hfa] at c1
    have FA := hid (fm_of hfa)
    have C1 := hid c1
    clear c1 hfa
    cases hfb : fmB h m
    · have c2 := fun w' hr' => form_c bo m cb h w' (by omega) hr'
      rw [hfb] at c2
      have HN := hid (nfm_of hfb)
      have C2 := hid c2
      clear c2 hfb
      go_enter Try.func73, Try.ntmps73
      go_wp2_with fail
      refine (C1.out _ hr).mono ?_
      rintro e w' ⟨rfl, rfl⟩
      go_wp2_with fail
      refine (C2.out _ hs).mono ?_
      rintro e w' ⟨rfl, rfl⟩
      go_wp2
      go_ret2
      exact ⟨_, _, _, f, _, rfl, Res.nil f (Below.refl _ _), .inr ⟨fun x => HN.out x.2, rfl, rfl⟩⟩
    · have c2 := fun w' hr' => form_c bo m cb h w' (by omega) hr'
      rw [hfb] at c2
      have FB := hid (fm_of hfb)
      have C2 := hid c2
      clear c2 hfb
      go_enter Try.func73, Try.ntmps73
      go_wp2_with fail
      refine (C1.out _ hr).mono ?_
      rintro e w' ⟨rfl, rfl⟩
      go_wp2_with fail
      refine (C2.out _ hs).mono ?_
      rintro e w' ⟨rfl, rfl⟩
      go_wp2_with fail
      refine (gcd_c ao bo n m ca cb f h _ hn hm hr hs HF.out HH.out FA.out FB.out).mono ?_
      rintro e w' ⟨ao', k, cap', f', rfl, hres, hv⟩
      have HV := hid hv
      clear hv
      go_wp2
      go_ret2
      exact ⟨_, _, _, f', _, rfl, hres, .inl ⟨FA.out, FB.out, rfl, HV.out⟩⟩
end Go.Proofs.Ytllpllebmknmpaa
namespace Go.Proofs.Ytllpllebmknmpaa
open Go.RowKit

theorem Wn.fm {w s x n c f v} (h : Wn w s x n c f v) : Fm f n := fm_of_wfB h.wf
theorem Wn.nv {w x n c f v} (h : Wn w false x n c f v) : vf f n = v := h.val
theorem Wn.pos {w x n c f v} (h : Wn w false x n c f v) (hv : 0 < v) : 0 < n := by
  rcases Nat.eq_zero_or_pos n with h0 | h0
  · subst h0; have : (0 : Int) = v := h.nv; omega
  · exact h0
theorem one_iff {f : Nat → Int} {n : Nat} {A : Int} (hl : Lm f n) (hf : Fm f n) (hv : vf f n = A) : A = 1 ↔ n = 1 ∧ f 0 = 1 := by
  have v1 : vf f 1 = f 0 := by simp [vf, pw]
  constructor
  · intro h
    have h0 : n ≠ 0 := fun h0 => by subst h0; simp [vf] at hv; omega
    have h1 := vf_form_ge hl hf (by omega)
    have hn : n = 1 := by
      rcases Nat.lt_or_ge 1 n with h2 | h2
      · have h3 := pw_mono (show 1 ≤ n - 1 by omega)
        have : pw 1 = 18446744073709551616 := by simp [pw]
        omega
      · omega
    subst hn
    exact ⟨rfl, by rw [← v1, hv, h]⟩
  · rintro ⟨rfl, h⟩
    rw [← hv, v1, h]
theorem isOne_c {w : World} {x n c f} {A : Int} (ha : Wn w false x n c f A) :
    Calls Try.prog 64 #[.slice x n c] w fun e w' => e = .returned (.bool (decide (A = 1))) ∧ w' = w := by
  have hi := one_iff ha.lm ha.fm ha.nv
  have hr := ha.rd
  have hn : n ≤ 9223372036854775807 := by have := ha.cap; omega
  by_cases h1 : n = 1
  · subst h1
    obtain ⟨b, o, rfl⟩ := hr.at (by omega)
    obtain ⟨y, hy⟩ : ∃ y, f 0 = y := ⟨_, rfl⟩
    have hc : w.cell? ⟨b, o, none⟩ = some (.int .u64 y) := by rw [← hy]; exact hr.cell (j := 0) (by omega)
    have e : decide (A = 1) = (y == 1) := by
      rw [hy] at hi
      by_cases h : y = 1 <;> simp_all
    have E := hid e
    clear hr hy e hi ha
    go_enter Try.func64, Try.ntmps64
    go_wp2
    go_ret
    exact ⟨by rw [E.out]; rfl, rfl⟩
  · have h1' : ((n : Int) == 1) = false := by simp; omega
    have e : decide (A = 1) = false := by simp; intro h; exact h1 (hi.1 h).1
    have E := hid e
    clear hr e hi ha
    go_enter Try.func64, Try.ntmps64
    go_wp2
    go_ret
    exact ⟨by rw [E.out]; rfl, rfl⟩
/-- A new list of the number 1. -/
theorem ratOne_c (w : World) :
    Calls Try.prog 72 #[] w fun e w' => ∃ x f, e = .returned (.slice x 1 1) ∧ Below w.heap.size w w' ∧ Wn w' false x 1 1 f 1 := by
  go_enter Try.func72, Try.ntmps72
  go_wp2
  go_ret
  refine ⟨_, fun _ => 1, rfl, ?_, ?_⟩
  · exact below_alloc (Below.refl _ _) _
  · refine ⟨Rd.mk (fun j hj => ?_), fun j _ => by simp, ?_, by omega, (fun h => by cases h), ?_⟩
    · have : j = 0 := by omega
      subst this
      simp [go_sem]
    · decide
    · simp [wv, vf, pw]
theorem gcd_n {w : World} {x n c f y m d g} {A B : Nat} (ha : Wn w false x n c f A) (hb : Wn w false y m d g B) (hn : n ≤ 1048576) (hm : m ≤ 1048576) :
    Calls Try.prog 73 #[.slice x n c, .slice y m d] w fun e w' => ∃ z k e' h, e = .returned (.tuple #[.slice z k e', .int .i64 0]) ∧ Below w.heap.size w w' ∧ Wn w' false z k e' h (A.gcd B : Nat) := by
  refine (Gcd_c x y n m c d f g w (by omega) (by omega) ha.rd hb.rd ha.lm hb.lm).mono ?_
  rintro e w' ⟨z, k, e', h, er, rfl, hres, hv⟩
  have hr := hres.ans (by omega)
  rcases hv with ⟨_, _, rfl, hv⟩ | ⟨h1, _⟩
  · refine ⟨z, k, e', h, rfl, hr.bel, hr.rd, hr.lm, (wfB_iff _ _ _).2 ⟨hr.fm, fun h => by cases h⟩, hr.ncap, hr.nil', ?_⟩
    show vf h k = _
    rw [hv, ha.nv, hb.nv]; simp
  · exact absurd ⟨ha.fm, hb.fm⟩ h1
set_option maxHeartbeats 800000 in
theorem ratGcd_c {w : World} {x n c f y m d g} {A B : Nat} (ha : Wn w false x n c f A) (hb : Wn w false y m d g B) (hn : n ≤ 1048576) (hm : m ≤ 1048576) :
    Calls Try.prog 65 #[.slice x n c, .slice y m d] w fun e w' => ∃ z k e' h, e = .returned (.slice z k e') ∧ Below w.heap.size w w' ∧ Wn w' false z k e' h (A.gcd B : Nat) := by
  have C1 := hid (isOne_c ha); have C2 := hid (isOne_c hb); have C3 := hid (gcd_n ha hb hn hm)
  by_cases h1 : A = 1
  · have e1 : decide ((A : Int) = 1) = true := by simp [h1]
    have e2 : A.gcd B = 1 := by rw [h1]; simp
    rw [e2]
    rw [e1] at C1
    clear ha hb e1 e2 h1 C2 C3
    go_enter Try.func65, Try.ntmps65
    go_wp2_with fail
    refine C1.out.mono ?_
    rintro e w1 ⟨rfl, rfl⟩
    go_wp2_with fail
    refine (ratOne_c _).mono ?_
    rintro e w2 ⟨z, h, rfl, h1, h2⟩
    go_wp2
    go_ret
    exact ⟨z, 1, 1, h, rfl, h1, h2⟩
  · have e1 : decide ((A : Int) = 1) = false := by simp; omega
    rw [e1] at C1
    by_cases h2 : B = 1
    · have e1 : decide ((B : Int) = 1) = true := by simp [h2]
      have e2 : A.gcd B = 1 := by rw [h2]; simp
      rw [e2]
      rw [e1] at C2
      clear ha hb e1 e2 h1 C3
      go_enter Try.func65, Try.ntmps65
      go_wp2_with fail
      refine C1.out.mono ?_
      rintro e w1 ⟨rfl, rfl⟩
      go_wp2_with fail
      refine C2.out.mono ?_
      rintro e w1 ⟨rfl, rfl⟩
      go_wp2_with fail
      refine (ratOne_c _).mono ?_
      rintro e w2 ⟨z, h, rfl, h1, h2⟩
      go_wp2
      go_ret
      exact ⟨z, 1, 1, h, rfl, h1, h2⟩
    · have e1 : decide ((B : Int) = 1) = false := by simp; omega
      rw [e1] at C2
      clear ha hb e1 h1
      go_enter Try.func65, Try.ntmps65
      go_wp2_with fail
      refine C1.out.mono ?_
      rintro e w1 ⟨rfl, rfl⟩
      go_wp2_with fail
      refine C2.out.mono ?_
      rintro e w1 ⟨rfl, rfl⟩
      go_wp2_with fail
      refine C3.out.mono ?_
      rintro e w2 ⟨z, k, e', h, rfl, h1, h2⟩
      have H2 := hid h2
      clear h2
      go_wp2
      go_ret
      exact ⟨z, k, e', h, rfl, h1, H2.out⟩
theorem numer_c (s : Bool) (x y : Option Addr) (n c m d : Nat) (w : World) :
    Calls Try.prog 62 #[.agg #[.bool s, .slice x n c, .slice y m d]] w fun e w' => e = .returned (.agg #[.bool s, .slice x n c]) ∧ Below w.heap.size w w' := by
  go_enter Try.func62, Try.ntmps62
  go_wp2
  refine bodyPost_ret (v := .agg #[.bool s, .slice x n c]) (by simp [results, Try.results62, go_sem]) rfl ⟨rfl, ?_⟩
  exact below_alloc (below_alloc (Below.refl w.heap.size w) _) _
end Go.Proofs.Ytllpllebmknmpaa
namespace Go.Proofs.Ytllpllebmknmpaa
open Go.RowKit

/-- A rational number in form that can be read, of at most L limbs above and below. -/
structure Rn (L : Nat) (w : World) (s : Bool) (x : Option Addr) (n c : Nat) (f : Nat → Int) (y : Option Addr) (m d : Nat) (g : Nat → Int) (q : Rat) : Prop where
  num : Wn w s x n c f q.num
  den : Wn w false y m d g (q.den : Int)
  ln : n ≤ L
  ld : m ≤ L
theorem Rn.below {L w w' s x n c f y m d g q} (h : Rn L w s x n c f y m d g q) (hb : Below w.heap.size w w') : Rn L w' s x n c f y m d g q := ⟨h.num.below hb, h.den.below hb, h.ln, h.ld⟩
theorem Rn.alloc {L w s x n c f y m d g q} (h : Rn L w s x n c f y m d g q) (o : Obj) : Rn L (w.alloc o) s x n c f y m d g q := ⟨h.num.alloc o, h.den.alloc o, h.ln, h.ld⟩
theorem Rn.mono {L L' w s x n c f y m d g q} (h : Rn L w s x n c f y m d g q) (hL : L ≤ L') : Rn L' w s x n c f y m d g q := ⟨h.num, h.den, Nat.le_trans h.ln hL, Nat.le_trans h.ld hL⟩
theorem Wn.mag {w s x n c f v} (h : Wn w s x n c f v) : Wn w false x n c f (v.natAbs : Nat) := by
  refine ⟨h.rd, h.lm, (wfB_iff _ _ _).2 ⟨h.fm, fun h => by cases h⟩, h.cap, h.nil, ?_⟩
  have h0 := vf_nonneg h.lm
  have hv := h.val
  show vf f n = _
  cases s
  · rw [wv_false] at hv; omega
  · rw [wv_true] at hv; omega
theorem Wn.sgn {w s x n c f v} (h : Wn w s x n c f v) : v = sg s v.natAbs := by
  have h0 := vf_nonneg h.lm
  have hv := h.val
  cases s
  · rw [wv_false] at hv; show v = (v.natAbs : Int); omega
  · rw [wv_true] at hv; show v = -(v.natAbs : Int); omega
/-- A rational number that a call answers. -/
def RatAns (L : Nat) (w w' : World) (e : Ending) (q : Rat) : Prop := ∃ s x n c f y m d g, e = .returned (.agg #[.bool s, .slice x n c, .slice y m d]) ∧ Below w.heap.size w w' ∧ Rn L w' s x n c f y m d g q
theorem kIb {w w' : World} {a : Addr} (hb : Below w.heap.size w w') (h : (w.cell? a).isSome = true) : (w'.cell? a).isSome = true := by
  obtain ⟨u, hu⟩ := Option.isSome_iff_exists.1 h
  rw [kCb hb hu]; rfl
theorem cell_off {w : World} {b i j : Nat} {u v : Value} (hij : i ≠ j) (h : w.cell? ⟨b, j, none⟩ = some u) : (w.setCell ⟨b, i, none⟩ v).cell? ⟨b, j, none⟩ = some u := by
  rw [World.cell?_setCell_other _ _ _ _ (fun he => hij (congrArg Addr.off he))]; exact h
theorem Wn.set {w : World} {p : Addr} {v u : Value} {s x n c f z} (hp : w.cell? p = some v) (hv : ∀ i, v ≠ .int .u64 i) (h : Wn w s x n c f z) : Wn (w.setCell p u) s x n c f z := by
  refine ⟨fun j hj => ?_, h.lm, h.wf, h.cap, h.nil, h.val⟩
  obtain ⟨b, o, hx, hc⟩ := h.rd j hj
  refine ⟨b, o, hx, ?_⟩
  rw [World.cell?_setCell_other _ _ _ _ (fun he => hv _ (Option.some.inj (hp.symm.trans (he ▸ hc))))]
  exact hc
end Go.Proofs.Ytllpllebmknmpaa
namespace Go.Proofs.Ytllpllebmknmpaa
open Go.RowKit

end Go.Proofs.Ytllpllebmknmpaa
namespace Go.Proofs.Ytllpllebmknmpaa
open Go.RowKit

/-- Two lists of limbs that can be read: numerator and denominator, in form or not. -/
structure Rw (w : World) (x : Option Addr) (n c : Nat) (f : Nat → Int) (y : Option Addr) (m d : Nat) (g : Nat → Int) : Prop where
  rx : Rd .u64 w x n f
  lx : Lm f n
  cx : n ≤ c ∧ c ≤ 9223372036854775807
  nx : x = none → n = 0 ∧ c = 0
  ry : Rd .u64 w y m g
  ly : Lm g m
  cy : m ≤ d ∧ d ≤ 9223372036854775807
  ny : y = none → m = 0 ∧ d = 0
theorem Rw.below {w w' x n c f y m d g} (h : Rw w x n c f y m d g) (hb : Below w.heap.size w w') : Rw w' x n c f y m d g := ⟨h.rx.below hb (Nat.le_refl _), h.lx, h.cx, h.nx, h.ry.below hb (Nat.le_refl _), h.ly, h.cy, h.ny⟩
theorem Rw.alloc {w x n c f y m d g} (h : Rw w x n c f y m d g) (o : Obj) : Rw (w.alloc o) x n c f y m d g := h.below (below_alloc (Below.refl _ _) o)
/-- In form: sign, limbs, and nothing in common. -/
def rfB (s : Bool) (f : Nat → Int) (n : Nat) (g : Nat → Int) (m : Nat) : Bool := wfB s f n && (fmB g m && (decide (0 < m) && decide ((vf f n).toNat.gcd (vf g m).toNat = 1)))
theorem natAbs_wv {s : Bool} {f : Nat → Int} {n : Nat} (h : Lm f n) : (wv s f n).natAbs = (vf f n).toNat := by
  have h0 := vf_nonneg h
  cases s
  · rw [wv_false]; omega
  · rw [wv_true]; omega
/-- What is in form is a number. -/
theorem Rw.rn {w s x n c f y m d g L} (h : Rw w x n c f y m d g) (hf : rfB s f n g m = true) (hn : n ≤ L) (hm : m ≤ L) : ∃ q, Rn L w s x n c f y m d g q := by
  simp only [rfB, Bool.and_eq_true, decide_eq_true_eq] at hf
  obtain ⟨h1, h2, h3, h4⟩ := hf
  have hp := vf_pos h.ly (fm_of h2) h3
  refine ⟨⟨wv s f n, (vf g m).toNat, by omega, by rw [natAbs_wv h.lx]; exact h4⟩, ⟨h.rx, h.lx, h1, h.cx, h.nx, rfl⟩, ⟨h.ry, h.ly, (wfB_iff _ _ _).2 ⟨fm_of h2, fun h => by cases h⟩, h.cy, h.ny, ?_⟩, hn, hm⟩
  show vf g m = ((vf g m).toNat : Int)
  omega
theorem Rn.rw {L w s x n c f y m d g q} (h : Rn L w s x n c f y m d g q) : Rw w x n c f y m d g := ⟨h.num.rd, h.num.lm, h.num.cap, h.num.nil, h.den.rd, h.den.lm, h.den.cap, h.den.nil⟩
theorem Rn.rf {L w s x n c f y m d g q} (h : Rn L w s x n c f y m d g q) : rfB s f n g m = true := by
  simp only [rfB, Bool.and_eq_true, decide_eq_true_eq]
  have hd := q.den_pos
  refine ⟨h.num.wf, (fmB_iff _ _).2 h.den.fm, h.den.pos (by omega), ?_⟩
  rw [← natAbs_wv (s := s) h.num.lm, h.num.val, h.den.nv]
  exact q.reduced
theorem Rn.inj {L L' w w' s t x n c f y m d g x' n' c' f' y' m' d' g' q r} (h : Rn L w s x n c f y m d g q) (h' : Rn L' w' t x' n' c' f' y' m' d' g' r) : (s = t ∧ Alk n n' f f' ∧ Alk m m' g g') ↔ q = r := by
  constructor
  · rintro ⟨rfl, ⟨rfl, h1⟩, ⟨rfl, h2⟩⟩
    have e1 : vf f n = vf f' n := vf_congr h1
    have e2 : vf g m = vf g' m := vf_congr h2
    refine Rat.ext ?_ ?_
    · rw [← h.num.val, ← h'.num.val]
      cases s
      · rw [wv_false, wv_false, e1]
      · rw [wv_true, wv_true, e1]
    · have := h.den.nv; have := h'.den.nv; omega
  · rintro rfl
    have ha := vf_nonneg h.num.lm; have hb := vf_nonneg h'.num.lm
    have e2 := vf_inj h.den.lm h'.den.lm h.den.fm h'.den.fm (h.den.nv.trans h'.den.nv.symm)
    have v1 := h.num.val; have v2 := h'.num.val
    have p1 := sgn_of_wfB h.num.wf; have p2 := sgn_of_wfB h'.num.wf
    have q1 : 0 < n → 0 < vf f n := vf_pos h.num.lm h.num.fm
    have q2 : 0 < n' → 0 < vf f' n' := vf_pos h'.num.lm h'.num.fm
    cases s <;> cases t
    · rw [wv_false] at v1 v2
      exact ⟨rfl, vf_inj h.num.lm h'.num.lm h.num.fm h'.num.fm (v1.trans v2.symm), e2⟩
    · rw [wv_false] at v1; rw [wv_true] at v2
      have := q2 (p2 rfl)
      omega
    · rw [wv_true] at v1; rw [wv_false] at v2
      have := q1 (p1 rfl)
      omega
    · rw [wv_true] at v1 v2
      exact ⟨rfl, vf_inj h.num.lm h'.num.lm h.num.fm h'.num.fm (by omega), e2⟩
/-- A box of three cells at block B. -/
structure Bx3 (w : World) (B : Nat) (a0 a1 a2 : Value) : Prop where
  z : B < w.heap.size
  x0 : w.cell? ⟨B, 0, none⟩ = some a0
  x1 : w.cell? ⟨B, 1, none⟩ = some a1
  x2 : w.cell? ⟨B, 2, none⟩ = some a2
theorem Bx3.below {w w' B a0 a1 a2} (h : Bx3 w B a0 a1 a2) (hb : Below w.heap.size w w') : Bx3 w' B a0 a1 a2 := ⟨Nat.lt_of_lt_of_le h.z hb.size, kCb hb h.x0, kCb hb h.x1, kCb hb h.x2⟩
theorem Bx3.alloc {w B a0 a1 a2} (h : Bx3 w B a0 a1 a2) (o : Obj) : Bx3 (w.alloc o) B a0 a1 a2 := h.below (below_alloc (Below.refl _ _) o)
theorem bx3_at (w : World) (a0 a1 a2 : Value) (t : TypeId) : Bx3 (w.alloc (.cells #[a0, a1, a2] t)) w.heap.size a0 a1 a2 := ⟨by simp, by simp [go_sem], by simp [go_sem], by simp [go_sem]⟩
theorem bx3_new {w w' : World} {a0 a1 a2 : Value} {t : TypeId} (hb : Below (w.alloc (.cells #[a0, a1, a2] t)).heap.size (w.alloc (.cells #[a0, a1, a2] t)) w') : Bx3 w' w.heap.size a0 a1 a2 := (bx3_at w a0 a1 a2 t).below hb

set_option maxHeartbeats 1000000 in
theorem rForm_c {w : World} {s x n c f y m d g} (h : Rw w x n c f y m d g) (hn : n ≤ 1048576) (hm : m ≤ 1048576) :
    Calls Try.prog 53 #[.agg #[.bool s, .slice x n c, .slice y m d]] w fun e w' => e = .returned (.bool (rfB s f n g m)) ∧ Below w.heap.size w w' := by
  have H := hid h
  have hrf : rfB s f n g m = (wfB s f n && (fmB g m && (decide (0 < m) && decide ((vf f n).toNat.gcd (vf g m).toNat = 1)))) := rfl
  rw [hrf]
  clear h hrf
  go_enter Try.func53, Try.ntmps53
  go_wp2_with fail
  refine (numer_c s x y n c m d _).mono ?_
  rintro e w1 ⟨rfl, hb⟩
  have B1 := hid (bx3_new hb); have HW1 : Hid (Below w.heap.size w w1) := (below_alloc (Below.refl w.heap.size w) _).trans (hb.mono (by simp))
  clear hb
  obtain ⟨z, x0, x1, x2⟩ := B1.out
  go_wp2_with fail
  refine (wForm_c s x n c f _ (by omega) (H.out.rx.below HW1.out (Nat.le_refl _))).mono ?_
  rintro e w2 ⟨rfl, hb⟩
  have B2 := hid (B1.out.below hb); have HW2 := hid (HW1.out.trans (hb.mono HW1.out.size))
  clear hb B1 z x0 x1 x2 HW1
  obtain ⟨z, x0, x1, x2⟩ := B2.out
  cases h1 : wfB s f n
  · have E : Hid ((wfB s f n && (fmB g m && (decide (0 < m) && decide ((vf f n).toNat.gcd (vf g m).toNat = 1)))) = false) := hid (by rw [h1]; rfl)
    go_wp2
    go_ret
    exact ⟨by rw [E.out]; rfl, HW2.out⟩
  have F1 := hid h1
  clear h1
  have c2 := form_c y m d g w2 (by omega) (H.out.ry.below HW2.out (Nat.le_refl _))
  go_wp2_with fail
  refine c2.mono ?_
  rintro e w3 ⟨rfl, rfl⟩
  clear c2
  cases h2 : fmB g m
  · have E : Hid ((wfB s f n && (fmB g m && (decide (0 < m) && decide ((vf f n).toNat.gcd (vf g m).toNat = 1)))) = false) := hid (by rw [F1.out, h2]; rfl)
    go_wp2
    go_ret
    exact ⟨by rw [E.out]; rfl, HW2.out⟩
  by_cases h3 : 0 < m
  · have h3' : ((m : Int) == 0) = false := by simp; omega
    have hd3 : decide (0 < m) = true := by simp; omega
    have E : Hid ((wfB s f n && (fmB g m && (decide (0 < m) && decide ((vf f n).toNat.gcd (vf g m).toNat = 1)))) = decide ((((vf f n).toNat.gcd (vf g m).toNat : Nat) : Int) = 1)) := hid (by
      rw [F1.out, h2, hd3, Bool.true_and, Bool.true_and, Bool.true_and]
      by_cases h : (vf f n).toNat.gcd (vf g m).toNat = 1
      · simp [h]
      · have : ¬ ((((vf f n).toNat.gcd (vf g m).toNat : Nat) : Int) = 1) := by omega
        simp [h, this])
    have hh := (H.out.below HW2.out)
    have W1 : Wn w3 false x n c f ((vf f n).toNat : Nat) := ⟨hh.rx, hh.lx, (wfB_iff _ _ _).2 ⟨fm_of_wfB F1.out, fun h => by cases h⟩, hh.cx, hh.nx, by have := vf_nonneg hh.lx; show vf f n = _; omega⟩
    have W2 : Wn w3 false y m d g ((vf g m).toNat : Nat) := ⟨hh.ry, hh.ly, (wfB_iff _ _ _).2 ⟨fm_of h2, fun h => by cases h⟩, hh.cy, hh.ny, by have := vf_nonneg hh.ly; show vf g m = _; omega⟩
    have C3 := hid (ratGcd_c W1 W2 (by omega) (by omega))
    clear hh W1 W2 hd3 h2 h3
    go_wp2_with fail
    refine C3.out.mono ?_
    rintro e w4 ⟨zg, kg, cg, fg, rfl, hb, hg⟩
    have C4 := hid (isOne_c hg)
    clear hg
    go_wp2_with fail
    refine C4.out.mono ?_
    rintro e w5 ⟨rfl, rfl⟩
    go_wp2
    go_ret
    exact ⟨by rw [E.out]; rfl, HW2.out.trans (hb.mono HW2.out.size)⟩
  · have h3' : m = 0 := by omega
    have E : Hid ((wfB s f n && (fmB g m && (decide (0 < m) && decide ((vf f n).toNat.gcd (vf g m).toNat = 1)))) = false) := hid (by simp [h3'])
    subst h3'
    go_wp2
    go_ret
    exact ⟨by rw [E.out]; rfl, HW2.out⟩
end Go.Proofs.Ytllpllebmknmpaa
namespace Go.Proofs.Ytllpllebmknmpaa
open Go.RowKit

/-- A number in memory: its sign, and where the limbs of numerator and denominator lie. -/
structure Nm where
  s : Bool
  x : Option Addr
  n : Nat
  c : Nat
  f : Nat → Int
  y : Option Addr
  m : Nat
  d : Nat
  g : Nat → Int
/-- It can be read, whatever it is, and is not too long. -/
def NmR (w : World) (t : Nm) : Prop := Rw w t.x t.n t.c t.f t.y t.m t.d t.g ∧ t.n ≤ 65536 ∧ t.m ≤ 65536
def nfB (t : Nm) : Bool := rfB t.s t.f t.n t.g t.m
theorem NmR.below {w w' t} (h : NmR w t) (hb : Below w.heap.size w w') : NmR w' t := ⟨h.1.below hb, h.2⟩
/-- Four cells from place o of block b on. -/
structure C4 (w : World) (b o : Nat) (a0 a1 a2 a3 : Value) : Prop where
  x0 : w.cell? ⟨b, o, none⟩ = some a0
  x1 : w.cell? ⟨b, o + 1, none⟩ = some a1
  x2 : w.cell? ⟨b, o + 2, none⟩ = some a2
  x3 : w.cell? ⟨b, o + 3, none⟩ = some a3
theorem C4.below {w w' b o a0 a1 a2 a3} (h : C4 w b o a0 a1 a2 a3) (hb : Below w.heap.size w w') : C4 w' b o a0 a1 a2 a3 := ⟨kCb hb h.x0, kCb hb h.x1, kCb hb h.x2, kCb hb h.x3⟩
end Go.Proofs.Ytllpllebmknmpaa
namespace Go.Proofs.Ytllpllebmknmpaa
open Go.RowKit

end Go.Proofs.Ytllpllebmknmpaa
namespace Go.Proofs.Ytllpllebmknmpaa
open Go.RowKit

end Go.Proofs.Ytllpllebmknmpaa
namespace Go.Proofs.Ytllpllebmknmpaa
open Go.RowKit

/-- Digits in form that can be read, with their number. -/
structure Dn (w : World) (x : Option Addr) (n : Nat) (d : Nat → Int) (V : Nat) : Prop where
  rd : Rd .u64 w x n d
  dg : Dg d n
  fm : Fm d n
  val : vd d n = V
theorem Dn.below {w w' x n d V} (h : Dn w x n d V) (hb : Below w.heap.size w w') : Dn w' x n d V := ⟨h.rd.below hb (Nat.le_refl _), h.dg, h.fm, h.val⟩
theorem Dn.alloc {w x n d V} (h : Dn w x n d V) (o : Obj) : Dn (w.alloc o) x n d V := ⟨h.rd.below ((Below.refl _ _).alloc (Nat.le_refl _) o) (Nat.le_refl _), h.dg, h.fm, h.val⟩
theorem Dn.drew {w x n d V} (h : Dn w x n d V) : Dn w.drew x n d V := ⟨h.rd, h.dg, h.fm, h.val⟩
theorem Dn.pos {w x n d V} (h : Dn w x n d V) (hV : 0 < V) : 0 < n := by
  rcases Nat.eq_zero_or_pos n with h0 | h0
  · subst h0; have : (0 : Int) = V := h.val; omega
  · exact h0
theorem Dn.zero {w x d V} (h : Dn w x 0 d V) : V = 0 := by have : (0 : Int) = V := h.val; omega
theorem Dn.pos' {w x n d V} (h : Dn w x n d V) (hn : 0 < n) : 0 < V := by
  have h1 := vd_form_ge h.dg h.fm hn
  have h2 := pd_pos (n - 1)
  rw [h.val] at h1
  omega
end Go.Proofs.Ytllpllebmknmpaa
namespace Go.Proofs.Ytllpllebmknmpaa
open Go.RowKit

end Go.Proofs.Ytllpllebmknmpaa
namespace Go.Proofs.Ytllpllebmknmpaa
open Go.RowKit

/-- A new box for an answer of three cells. -/
structure Ob (w : World) (B : Nat) : Prop where
  z : B < w.heap.size
  z0 : w.cell? ⟨B, 0, none⟩ = some (.bool false)
  z1 : w.cell? ⟨B, 1, none⟩ = some (.slice none 0 0)
  z2 : w.cell? ⟨B, 2, none⟩ = some (.slice none 0 0)
  zf : ∀ o, w.frozen? ⟨B, o, none⟩ = false
theorem Ob.below {w w' B} (h : Ob w B) (hb : Below w.heap.size w w') : Ob w' B := by
  obtain ⟨h1, h2⟩ := bcell hb
  exact ⟨Nat.lt_of_lt_of_le h.z hb.size, kCb hb h.z0, kCb hb h.z1, kCb hb h.z2, fun o => (h2 _ _ h.z).trans (h.zf o)⟩
theorem kOb {w w' B} (hb : Below w.heap.size w w') (h : Ob w B) : Ob w' B := h.below hb
theorem Ob.alloc {w B} (h : Ob w B) (o : Obj) : Ob (w.alloc o) B := h.below (below_alloc (Below.refl _ _) o)
theorem Ob.drew {w B} (h : Ob w B) : Ob w.drew B := ⟨h.z, h.z0, h.z1, h.z2, h.zf⟩
theorem Ob.drewN {w B} (h : Ob w B) (q : Nat) : Ob (w.drewN q) B := ⟨h.z, h.z0, h.z1, h.z2, h.zf⟩
theorem ob_new (w : World) (t : TypeId) : Ob (w.alloc (.cells #[.bool false, .slice none 0 0, .slice none 0 0] t)) w.heap.size := by
  refine ⟨by simp, by simp [go_sem], by simp [go_sem], by simp [go_sem], fun o => ?_⟩
  have e := heap_alloc_new w (.cells #[.bool false, .slice none 0 0, .slice none 0 0] t)
  simp only [World.frozen?, e]; simp
theorem rd_setne {w : World} {p : Addr} {v u : Value} {x n f} (hp : w.cell? p = some v) (hv : ∀ i, v ≠ .int .u64 i) (h : Rd .u64 w x n f) : Rd .u64 (w.setCell p u) x n f := by
  intro j hj
  obtain ⟨b, o, hx, hc⟩ := h j hj
  refine ⟨b, o, hx, ?_⟩
  rw [World.cell?_setCell_other _ _ _ _ (fun he => hv _ (Option.some.inj (hp.symm.trans (he ▸ hc))))]
  exact hc
theorem Ob.rd {w B u0 u1 u2 x n f} (h : Ob w B) (hx : Rd .u64 w x n f) : Rd .u64 (((w.setCell ⟨B, 0, none⟩ u0).setCell ⟨B, 1, none⟩ u1).setCell ⟨B, 2, none⟩ u2) x n f :=
  rd_setne (cell_off (by decide) (cell_off (by decide) h.z2)) (fun i h => by cases h) (rd_setne (cell_off (by decide) h.z1) (fun i h => by cases h) (rd_setne h.z0 (fun i h => by cases h) hx))
theorem Ob.wn {w B u0 u1 u2 s x n c f v} (h : Ob w B) (hx : Wn w s x n c f v) : Wn (((w.setCell ⟨B, 0, none⟩ u0).setCell ⟨B, 1, none⟩ u1).setCell ⟨B, 2, none⟩ u2) s x n c f v := ⟨h.rd hx.rd, hx.lm, hx.wf, hx.cap, hx.nil, hx.val⟩
theorem Ob.dn {w B u0 u1 u2 x n d V} (h : Ob w B) (hx : Dn w x n d V) : Dn (((w.setCell ⟨B, 0, none⟩ u0).setCell ⟨B, 1, none⟩ u1).setCell ⟨B, 2, none⟩ u2) x n d V := ⟨h.rd hx.rd, hx.dg, hx.fm, hx.val⟩
theorem Ob.rn {w B u0 u1 u2 L s x n c f y m d g q} (h : Ob w B) (hx : Rn L w s x n c f y m d g q) : Rn L (((w.setCell ⟨B, 0, none⟩ u0).setCell ⟨B, 1, none⟩ u1).setCell ⟨B, 2, none⟩ u2) s x n c f y m d g q := ⟨h.wn hx.num, h.wn hx.den, hx.ln, hx.ld⟩
theorem below_st {w0 w : World} {B : Nat} {u0 u1 u2 : Value} (hw : Below w0.heap.size w0 w) (hB : w0.heap.size ≤ B) :
    Below w0.heap.size w0 (((w.setCell ⟨B, 0, none⟩ u0).setCell ⟨B, 1, none⟩ u1).setCell ⟨B, 2, none⟩ u2) :=
  below_turned hw hw.size ((((Turned.refl w0.heap.size (B + 1) w).set (x := ⟨B, 0, none⟩) hB (by simp) _).set (x := ⟨B, 1, none⟩) hB (by simp) _).set (x := ⟨B, 2, none⟩) hB (by simp) _) (Nat.le_refl _)
theorem Dn.drewN {w x n d V} (h : Dn w x n d V) (q : Nat) : Dn (w.drewN q) x n d V := ⟨h.rd, h.dg, h.fm, h.val⟩
end Go.Proofs.Ytllpllebmknmpaa
namespace Go.Proofs.Ytllpllebmknmpaa
open Go.RowKit

theorem Tg.set {w x} (h : Tg w x) (p : Addr) (u : Value) : Tg (w.setCell p u) x := fun a ha => by
  obtain ⟨arr, fr, hh⟩ := h a ha
  by_cases e : a.block = p.block
  · refine ⟨if p.spot.isSome then arr else arr.setIfInBounds p.off u, fr, ?_⟩
    rw [e] at hh ⊢
    simp [World.setCell, Array.getElem?_modify, hh]
  · exact ⟨arr, fr, (Below.heap_setCell w p u a.block e).trans hh⟩
theorem Tg.alloc {w x} (h : Tg w x) (o : Obj) : Tg (w.alloc o) x := h.below (below_alloc (Below.refl _ _) o)
theorem own_wn {w base x n c f} {V : Nat} (h : Own .u64 63 w base (.slice x n c) n f) (hl : Lm f n) (hf : Fm f n) (hv : vf f n = V) : Wn w false x n c f (V : Int) := by
  obtain ⟨h1, h2, h3, h4, _⟩ := h.slice
  exact ⟨h4, hl, (wfB_iff _ _ _).2 ⟨hf, fun h => by cases h⟩, ⟨h1, h2⟩, h3, hv⟩
theorem toWn_c {w x n c d} {V : Nat} (h : Dn w x n d V) (hn : n ≤ 1048576) :
    Calls Try.prog 55 #[.slice x n c] w fun e w' => ∃ z k c' f, e = .returned (.slice z k c') ∧ Below w.heap.size w w' ∧ Hid (k ≤ n ∧ Wn w' false z k c' f (V : Int) ∧ Tg w' z) :=
  (toOwn_c x n c d w hn h.rd h.dg h.fm).mono (fun _ _ ⟨z, k, c', f, h1, h2, h3, _, h4, h5, h6, h7⟩ => ⟨z, k, c', f, h1, h3, h4, own_wn h2 h5 h6 (h7.trans h.val), h2.tg⟩)
set_option maxRecDepth 100000 in
set_option maxHeartbeats 4000000 in
theorem qTo_c {w : World} {r : Bool} {x n c d y m e g} {A B : Nat} (ha : Dn w x n d A) (hb : Dn w y m g B) (hn : n ≤ 131072) (hm : m ≤ 131072) :
    Calls Try.prog 46 #[.agg #[.bool r, .slice x n c, .slice y m e]] w fun en w' => ∃ z k c' f z2 k2 c2 f2, en = .returned (.agg #[.bool r, .slice z k c', .slice z2 k2 c2]) ∧ Below w.heap.size w w' ∧ k ≤ n ∧ k2 ≤ m ∧ Wn w' false z k c' f (A : Int) ∧ Wn w' false z2 k2 c2 f2 (B : Int) ∧ Tg w' z ∧ Tg w' z2 := by
  have h1 := (ha.alloc (.cells #[.bool r, .slice x n c, .slice y m e] 102)).alloc (.cells #[.bool false, .slice none 0 0, .slice none 0 0] 66)
  have h2 := (hb.alloc (.cells #[.bool r, .slice x n c, .slice y m e] 102)).alloc (.cells #[.bool false, .slice none 0 0, .slice none 0 0] 66)
  have h3 := ob_new (w.alloc (.cells #[.bool r, .slice x n c, .slice y m e] 102)) 66
  rw [size_alloc1] at h3
  have h4 := below_alloc (below_alloc (Below.refl w.heap.size w) (.cells #[.bool r, .slice x n c, .slice y m e] 102)) (.cells #[.bool false, .slice none 0 0, .slice none 0 0] 66)
  have h5 := (bx3_at w (.bool r) (.slice x n c) (.slice y m e) 102).alloc (.cells #[.bool false, .slice none 0 0, .slice none 0 0] 66)
  clear ha hb
  go_enter Try.func46, Try.ntmps46
  go_wp2_with fail
  generalize (w.alloc (.cells #[.bool r, .slice x n c, .slice y m e] 102)).alloc (.cells #[.bool false, .slice none 0 0, .slice none 0 0] 66) = w1 at *
  have HA := hid h1; have HB := hid h2; have OB := h3; have HW := hid h4
  obtain ⟨hz, z0, z1, z2, zf⟩ := h3
  obtain ⟨hy, x0, x1, x2⟩ := h5
  clear h1 h2 h4
  have C1 : Hid (∀ W, Below w1.heap.size w1 W → Calls Try.prog 55 #[.slice x n c] W fun e w' => ∃ z k c' f, e = .returned (.slice z k c') ∧ Below W.heap.size W w' ∧ Hid (k ≤ n ∧ Wn w' false z k c' f (A : Int) ∧ Tg w' z)) := fun W hW => toWn_c (HA.out.below hW) (by omega)
  have C2 : Hid (∀ W, Below w1.heap.size w1 W → Calls Try.prog 55 #[.slice y m e] W fun e w' => ∃ z k c' f, e = .returned (.slice z k c') ∧ Below W.heap.size W w' ∧ Hid (k ≤ m ∧ Wn w' false z k c' f (B : Int) ∧ Tg w' z)) := fun W hW => toWn_c (HB.out.below hW) (by omega)
  go_region_held3 (fun w' => w'.cell? ⟨w.heap.size, 0, none⟩ = some (.bool r) ∧ w'.cell? ⟨w.heap.size, 1, none⟩ = some (.slice x n c) ∧ w'.cell? ⟨w.heap.size, 2, none⟩ = some (.slice y m e) ∧ (w'.cell? ⟨w.heap.size + 1, 0, none⟩).isSome = true ∧ (w'.cell? ⟨w.heap.size + 1, 1, none⟩).isSome = true ∧ (w'.cell? ⟨w.heap.size + 1, 2, none⟩).isSome = true ∧ w'.frozen? ⟨w.heap.size + 1, 0, none⟩ = false ∧ w'.frozen? ⟨w.heap.size + 1, 1, none⟩ = false ∧ w'.frozen? ⟨w.heap.size + 1, 2, none⟩ = false)
    (refine ⟨?_, ?_, ?_, ?_, ?_, ?_, ?_, ?_, ?_⟩ <;> repeat (with_reducible first | assumption | exact zf _ | exact kI0 z0 | exact kI0 z1 | exact kI0 z2 | exact tf _ | exact kI0 t0 | exact kI0 t1 | exact kI0 t2 | exact uf _ | exact kI0 u0 | exact kI0 u1 | exact kI0 u2 | refine kCd ?_ | refine kId ?_ | refine kFd ?_ | refine kCs (by simp only [ne_eq]; omega) ?_ | refine kIs ?_ | refine kFs ?_ | refine kCb (by assumption) ?_ | refine kIb (by assumption) ?_))
    (first
      | (go_at_call 55; with_reducible refine (C1.out _ (by repeat (with_reducible first | assumption | exact Below.refl _ _ | refine Below.drew ?_ | refine kBa ?_ | refine kBb (by assumption) ?_))).mono ?_; rintro e w5 ⟨za, ka, ca, fa, rfl, hb5, HP⟩; have TU : Ob w5 (w.heap.size + 1) := (by repeat (with_reducible first | exact OB | exact hO2 | exact TU | exact TV | exact TW | exact TX | exact TY | refine Ob.drew ?_ | refine kOb (by assumption) ?_)); obtain ⟨_, t0, t1, t2, tf⟩ := id TU)
      | (go_at_call 55; with_reducible refine (C2.out _ (by repeat (with_reducible first | assumption | exact Below.refl _ _ | refine Below.drew ?_ | refine kBa ?_ | refine kBb (by assumption) ?_))).mono ?_; rintro e w6 ⟨zb, kb, cb, fb, rfl, hb6, HQ⟩; have TV : Ob w6 (w.heap.size + 1) := (by repeat (with_reducible first | exact OB | exact hO2 | exact TU | exact TV | exact TW | exact TX | exact TY | refine Ob.drew ?_ | refine kOb (by assumption) ?_)); obtain ⟨_, u0, u1, u2, uf⟩ := id TV))
  have WA : Wn w6 false za ka ca fa (A : Int) := HP.out.2.1.below hb6
  have hb : Below w1.heap.size w1 w6 := (by repeat (with_reducible first | assumption | exact Below.refl _ _ | refine Below.drew ?_ | refine kBa ?_ | refine kBb (by assumption) ?_))
  go_wp2
  exact bodyPost_ret (v := .agg #[.bool r, .slice za ka ca, .slice zb kb cb]) (by simp [results, Try.results46, go_sem, u0, u1, u2]) rfl ⟨za, ka, ca, fa, zb, kb, cb, fb, rfl, below_st (HW.out.trans (hb.mono HW.out.size)) (by omega), HP.out.1, HQ.out.1, TV.wn WA, TV.wn HQ.out.2.1, ((((HP.out.2.2.below hb6).set _ _).set _ _).set _ _), (((HQ.out.2.2.set _ _).set _ _).set _ _)⟩

end Go.Proofs.Ytllpllebmknmpaa
namespace Go.Proofs.Ytllpllebmknmpaa
open Go.RowKit

end Go.Proofs.Ytllpllebmknmpaa
namespace Go.Proofs.Ytllpllebmknmpaa
open Go.RowKit

theorem kCe {w : World} {a : Addr} {v : Value} (h : (w.cell? a).isSome = true) : (w.setCell a v).cell? a = some v := World.cell?_setCell_same' w a v h
theorem kCo {w : World} {b i j : Nat} {u v : Value} (hij : i ≠ j) (h : w.cell? ⟨b, j, none⟩ = some u) : (w.setCell ⟨b, i, none⟩ v).cell? ⟨b, j, none⟩ = some u := by
  rw [World.cell?_setCell_other _ _ _ _ (fun he => hij (congrArg Addr.off he))]; exact h
end Go.Proofs.Ytllpllebmknmpaa
namespace Go.Proofs.Ytllpllebmknmpaa
open Go.RowKit

set_option maxRecDepth 100000 in
set_option maxHeartbeats 400000 in
theorem rclone_c (ao : Option Addr) (n cap : Nat) (f : Nat → Int) (w : World) (hn : n ≤ 1048576) (hr : Rd .u64 w ao n f) (hnil : ao = none → n = 0 ∧ cap = 0) :
    Calls Try.prog 66 #[.slice ao n cap] w fun e w' => ∃ ao' cap', e = .returned (.slice ao' n cap') ∧ Below w.heap.size w w' ∧ Own .u64 63 w' w.heap.size (.slice ao' n cap') n f := by
  cases ao with
  | none =>
    obtain ⟨rfl, rfl⟩ := hnil rfl
    go_enter Try.func66, Try.ntmps66
    obtain ⟨i0, hi, hz0, hz1, hz2⟩ := info_parts Try.infoU64
    go_wp2_with (at_builtin; refine wpList_append_own_none rfl (.const (.slice none 0 0)) (.tmp 3) 64 rfl w.heap.size 63 i0 1 Try.underlying64 hi (.slice none 0 0) 0 [] rfl (World.ownsRow_nil _ _ _ _) rfl ?_)
    go_ret
    exact ⟨none, 0, rfl, Below.refl _ _, own_nil _ _ _ _ _⟩
  | some ad =>
    clear hnil
    have HR := hid hr
    clear hr
    go_enter Try.func66, Try.ntmps66
    obtain ⟨i0, hi, hz0, hz1, hz2⟩ := info_parts Try.infoU64
    go_wp2_with (at_builtin; refine wpList_append_own w rfl (.const (.slice none 0 0)) (.tmp 3) 64 rfl w.heap.size 63 i0 (.int .u64 0) 1 8 Try.underlying64 hi hz0 hz1 hz2 rfl (by decide) (.slice none 0 0) 0 [] rfl (World.ownsRow_nil _ _ _ _) ad n cap (lst .u64 f n) rfl (by rw [lst_length, Nat.mul_one]) ?c1 (lst_one _ _ _) ?c2 ?c3 (Nat.le_refl _) ?_)
    case c1 =>
      intro j u hu
      obtain ⟨hj, rfl⟩ := lst_getE hu
      obtain ⟨b, o, e, hc⟩ := HR.out j hj
      cases e
      rw [addr_add]; exact hc
    case c2 => unfold maxLen; omega
    case c3 => omega
    intro v' w' hown hgr _
    have hown' : Own .u64 63 w' w.heap.size v' n f := hown
    have hbel : Below w.heap.size w w' := (Below.refl _ _).grown hgr (Nat.le_refl _) (fun k h => by simp [Value.ownBlock] at h)
    obtain ⟨ao', cap', hv, hcc, hnn, hml, hrd, hlt⟩ := hown'.shape
    rw [hv] at hown' ⊢
    clear hown hgr hv
    have HO := hid hown'
    clear hown'
    go_wp2
    go_ret
    exact ⟨ao', cap', rfl, hbel, HO.out⟩
end Go.Proofs.Ytllpllebmknmpaa
namespace Go.Proofs.Ytllpllebmknmpaa
open Go.RowKit

/-- Three cells from place o of block b on. -/
structure C3 (w : World) (b o : Nat) (a0 a1 a2 : Value) : Prop where
  x0 : w.cell? ⟨b, o, none⟩ = some a0
  x1 : w.cell? ⟨b, o + 1, none⟩ = some a1
  x2 : w.cell? ⟨b, o + 2, none⟩ = some a2
theorem C3.below {w w' b o a0 a1 a2} (h : C3 w b o a0 a1 a2) (hb : Below w.heap.size w w') : C3 w' b o a0 a1 a2 := ⟨kCb hb h.x0, kCb hb h.x1, kCb hb h.x2⟩
/-- A list of k numbers that can be read, whatever they are. -/
def Rl (w : World) (ao : Option Addr) (k : Nat) (X : Nat → Nm) : Prop :=
  ∀ j, j < k → ∃ b o, ao = some ⟨b, o, none⟩ ∧ C3 w b (o + j * 3) (.bool (X j).s) (.slice (X j).x (X j).n (X j).c) (.slice (X j).y (X j).m (X j).d) ∧ NmR w (X j)
theorem Rl.below {w w' ao k X} (h : Rl w ao k X) (hb : Below w.heap.size w w') : Rl w' ao k X := fun j hj => by
  obtain ⟨b, o, e, h1, h2⟩ := h j hj
  exact ⟨b, o, e, h1.below hb, h2.below hb⟩
/-- All in form from number i on. -/
def afr (X : Nat → Nm) : Nat → Nat → Bool
  | 0, _ => true
  | r + 1, i => nfB (X i) && afr X r (i + 1)
def afB (k : Nat) (X : Nat → Nm) : Bool := afr X k 0
theorem box3 {w w1 : World} {a0 a1 a2 : Value} {t : TypeId} (hb : Below (w.alloc (.cells #[a0, a1, a2] t)).heap.size (w.alloc (.cells #[a0, a1, a2] t)) w1) : w.heap.size < w1.heap.size ∧ w1.cell? ⟨w.heap.size, 0, none⟩ = some a0 ∧ w1.cell? ⟨w.heap.size, 1, none⟩ = some a1 ∧ w1.cell? ⟨w.heap.size, 2, none⟩ = some a2 ∧ Below w.heap.size w w1 := by
  have hz := hb.size
  simp at hz
  exact ⟨by omega, kCb hb (by simp [go_sem]), kCb hb (by simp [go_sem]), kCb hb (by simp [go_sem]), (below_alloc (Below.refl _ w) _).trans (hb.mono (by simp))⟩

end Go.Proofs.Ytllpllebmknmpaa
namespace Go.Proofs.Ytllpllebmknmpaa
open Go.RowKit

/-- Two boxes of three cells. -/
theorem two_new {w w1 : World} {a0 a1 a2 b0 b1 b2 : Value} {t : TypeId} (hb : Below ((w.alloc (.cells #[a0, a1, a2] t)).alloc (.cells #[b0, b1, b2] t)).heap.size ((w.alloc (.cells #[a0, a1, a2] t)).alloc (.cells #[b0, b1, b2] t)) w1) :
    Bx3 w1 w.heap.size a0 a1 a2 ∧ Bx3 w1 (w.heap.size + 1) b0 b1 b2 ∧ Below w.heap.size w w1 := by
  have h2 := bx3_at (w.alloc (.cells #[a0, a1, a2] t)) b0 b1 b2 t
  rw [size_alloc1] at h2
  exact ⟨((bx3_at w a0 a1 a2 t).alloc _).below hb, h2.below hb, (below_alloc (below_alloc (Below.refl w.heap.size w) _) _).trans (hb.mono (by simp; omega))⟩
theorem beq_bool_true {s t : Bool} (h : s = t) : (s == t) = true := by subst h; cases s <;> rfl
theorem beq_bool_false {s t : Bool} (h : ¬ s = t) : (s == t) = false := by cases s <;> cases t <;> first | rfl | exact absurd rfl h
set_option maxHeartbeats 1000000 in
theorem rSame_c (sa : Bool) (xa ya : Option Addr) (na ca ma da : Nat) (fa ga : Nat → Int) (sb : Bool) (xb yb : Option Addr) (nb cb mb db : Nat) (fb gb : Nat → Int) (w : World) (h1 : Rd .u64 w xa na fa) (h2 : Rd .u64 w ya ma ga) (h3 : Rd .u64 w xb nb fb) (h4 : Rd .u64 w yb mb gb) (l1 : na ≤ 140737488355328) (l2 : ma ≤ 140737488355328) (l3 : nb ≤ 140737488355328) (l4 : mb ≤ 140737488355328) :
    Calls Try.prog 30 #[.agg #[.bool sa, .slice xa na ca, .slice ya ma da], .agg #[.bool sb, .slice xb nb cb, .slice yb mb db]] w fun e w' => ∃ b, e = .returned (.bool b) ∧ Below w.heap.size w w' ∧ (b = true ↔ sa = sb ∧ Alk na nb fa fb ∧ Alk ma mb ga gb) := by
  have H1 := hid h1; have H2 := hid h2; have H3 := hid h3; have H4 := hid h4
  clear h1 h2 h3 h4
  by_cases hs : sa = sb
  · have hse := beq_bool_true hs
    have HS := hid hs
    clear hs
    go_enter Try.func30, Try.ntmps30
    go_wp2_with fail
    refine (same_c xa xb na nb ca cb fa fb _ l1 l3 ((H1.out.alloc _).alloc _) ((H3.out.alloc _).alloc _)).mono ?_
    rintro e w1 ⟨⟨q, hq⟩, b, rfl, hb1⟩
    obtain ⟨⟨za, x0, x1, x2⟩, ⟨zb, y0, y1, y2⟩, hw⟩ := two_new (drewN_below hq)
    have HW1 := hid hw; have HB1 := hid hb1
    clear hq hw hb1
    cases b
    · go_wp2
      go_ret
      exact ⟨false, rfl, HW1.out, (fun h => by cases h), fun h => HB1.out.2 h.2.1⟩
    · go_wp2_with fail
      refine (same_c ya yb ma mb da db ga gb _ l2 l4 (H2.out.below HW1.out (Nat.le_refl _)) (H4.out.below HW1.out (Nat.le_refl _))).mono ?_
      rintro e w2 ⟨⟨q, hq⟩, b, rfl, hb2⟩
      have HW2 := hid (HW1.out.trans ((drewN_below hq).mono HW1.out.size)); have HB2 := hid hb2
      clear hq hb2
      go_wp2
      go_ret
      exact ⟨b, rfl, HW2.out, fun h => ⟨HS.out, HB1.out.1 (by simp), HB2.out.1 h⟩, fun h => HB2.out.2 h.2.2⟩
  · have hse := beq_bool_false hs
    have HS := hid hs
    clear hs
    go_enter Try.func30, Try.ntmps30
    go_wp2
    go_ret
    exact ⟨false, rfl, below_alloc (below_alloc (Below.refl _ _) _) _, (fun h => by cases h), fun h => absurd h.1 HS.out⟩
end Go.Proofs.Ytllpllebmknmpaa
namespace Go.Proofs.Ytllpllebmknmpaa
open Go.RowKit

end Go.Proofs.Ytllpllebmknmpaa
namespace Go.Proofs.Ytllpllebmknmpaa
open Go.ChangeShapes Go.WideShapes Go.ChangeAt Go.RowKit

theorem Try.own : ownKnob Try.prog.godebug = none := by kernel_rfl
end Go.Proofs.Ytllpllebmknmpaa
namespace Go.Proofs.Ytllpllebmknmpaa
open Go.RowKit

end Go.Proofs.Ytllpllebmknmpaa
namespace Go.Proofs.Ytllpllebmknmpaa
open Go.ChangeShapes Go.WideShapes Go.ChangeAt Go.RowKit

end Go.Proofs.Ytllpllebmknmpaa
namespace Go.Proofs.Ytllpllebmknmpaa
open Go.RowKit

/-- No cell is a limb. -/
def NoU (cur : Array Value) : Prop := ∀ (i : Nat) (z : Int), cur[i]? ≠ some (Value.int .u64 z)
/-- Nothing that holds limbs has turned; there may be new blocks. -/
structure Kp (w w' : World) : Prop where
  os : w'.os = w.os
  tape : w'.tape = w.tape
  output : w'.output = w.output
  size : w.heap.size ≤ w'.heap.size
  block : ∀ k, k < w.heap.size → w'.heap[k]? = w.heap[k]? ∨ ∃ cur t fr, w.heap[k]? = some (.cells cur t fr) ∧ NoU cur
theorem Kp.refl (w : World) : Kp w w := ⟨rfl, rfl, rfl, Nat.le_refl _, fun _ _ => .inl rfl⟩
theorem Kp.trans {a b c : World} (h : Kp a b) (k : Kp b c) : Kp a c :=
  ⟨k.os.trans h.os, k.tape.trans h.tape, k.output.trans h.output, Nat.le_trans h.size k.size, fun i hi => by
    rcases h.block i hi with e | e
    · rcases k.block i (Nat.lt_of_lt_of_le hi h.size) with e2 | ⟨cur, t, fr, e2, e3⟩
      · exact .inl (e2.trans e)
      · exact .inr ⟨cur, t, fr, e.symm.trans e2, e3⟩
    · exact .inr e⟩
theorem Kp.of_below {w w' : World} (h : Below w.heap.size w w') : Kp w w' := ⟨h.os, h.tape, h.output, h.size, fun k hk => .inl (h.block k hk)⟩
theorem Kp.drew {a w : World} (h : Kp a w) : Kp a w.drew := ⟨h.os, h.tape, h.output, h.size, h.block⟩
theorem Kp.drewN {a w : World} (h : Kp a w) (q : Nat) : Kp a (w.drewN q) := ⟨h.os, h.tape, h.output, h.size, h.block⟩
theorem Kp.alloc {a w : World} (h : Kp a w) (o : Obj) : Kp a (w.alloc o) := h.trans (Kp.of_below (below_alloc (Below.refl _ _) o))
theorem Kp.set {a w : World} (h : Kp a w) {x : Addr} {cur : Array Value} {t : TypeId} {fr : Nat × Nat} (hx : w.heap[x.block]? = some (.cells cur t fr)) (hu : NoU cur) (u : Value) : Kp a (w.setCell x u) :=
  h.trans ⟨rfl, rfl, rfl, by simp [World.setCell], fun k _ => by
    by_cases e : k = x.block
    · subst e; exact .inr ⟨cur, t, fr, hx, hu⟩
    · exact .inl (Below.heap_setCell _ _ _ _ e)⟩
theorem Rd.kp {w w' ao n f} (h : Rd .u64 w ao n f) (hk : Kp w w') : Rd .u64 w' ao n f := fun j hj => by
  obtain ⟨b, o, e, hc⟩ := h j hj
  refine ⟨b, o, e, ?_⟩
  have hl := World.block_lt_of_cell? w _ hc
  rcases hk.block b hl with h1 | ⟨cur, t, fr, h1, h2⟩
  · exact (World.cell?_of_block (a := ⟨b, o + j, none⟩) h1).trans hc
  · exfalso
    simp [World.cell?, h1] at hc
    exact h2 _ _ hc
theorem Wn.kp {w w' s x n c f v} (h : Wn w s x n c f v) (hk : Kp w w') : Wn w' s x n c f v := ⟨h.rd.kp hk, h.lm, h.wf, h.cap, h.nil, h.val⟩
theorem Rn.kp {L w w' s x n c f y m d g q} (h : Rn L w s x n c f y m d g q) (hk : Kp w w') : Rn L w' s x n c f y m d g q := ⟨h.num.kp hk, h.den.kp hk, h.ln, h.ld⟩

end Go.Proofs.Ytllpllebmknmpaa
namespace Go.Proofs.Ytllpllebmknmpaa
open Go.RowKit

end Go.Proofs.Ytllpllebmknmpaa
namespace Go.Proofs.Ytllpllebmknmpaa
open Go.RowKit

end Go.Proofs.Ytllpllebmknmpaa
namespace Go.Proofs.Ytllpllebmknmpaa
open Go.RowKit

end Go.Proofs.Ytllpllebmknmpaa
namespace Go.Proofs.Ytllpllebmknmpaa
open Go.RowKit

end Go.Proofs.Ytllpllebmknmpaa
namespace Go.Proofs.Ytllpllebmknmpaa
open Go.RowKit

theorem Nm.rn {w : World} {t : Nm} {L : Nat} (h : NmR w t) (hf : nfB t = true) (hn : t.n ≤ L) (hm : t.m ≤ L) : ∃ q, Rn L w t.s t.x t.n t.c t.f t.y t.m t.d t.g q := h.1.rn hf hn hm
end Go.Proofs.Ytllpllebmknmpaa
namespace Go.Proofs.Ytllpllebmknmpaa
open Go.RowKit

end Go.Proofs.Ytllpllebmknmpaa
namespace Go.Proofs.Ytllpllebmknmpaa
open Go.RowKit

end Go.Proofs.Ytllpllebmknmpaa
namespace Go.Proofs.Ytllpllebmknmpaa
open Go.RowKit

theorem Wn.lt_pw {w s x n c f v} (h : Wn w s x n c f v) : ((v.natAbs : Nat) : Int) < pw n := by
  have hm := h.mag
  have h1 := vf_lt hm.lm
  have h3 : vf f n = ((v.natAbs : Nat) : Int) := hm.val
  omega
/-- Numerator and denominator lie below so many limbs. -/
def Lo (K : Nat) (q : Rat) : Prop := ((q.num.natAbs : Nat) : Int) < pw K ∧ ((q.den : Nat) : Int) < pw K
theorem Lo.mono {K L q} (h : Lo K q) (hk : K ≤ L) : Lo L q := ⟨Int.lt_of_lt_of_le h.1 (pw_mono hk), Int.lt_of_lt_of_le h.2 (pw_mono hk)⟩
theorem Rn.lo {L w s x n c f y m d g q} {K : Nat} (h : Rn L w s x n c f y m d g q) (hn : n ≤ K) (hm : m ≤ K) : Lo K q :=
  ⟨Int.lt_of_lt_of_le h.num.lt_pw (pw_mono hn), Int.lt_of_lt_of_le (by have := h.den.lt_pw; simpa using this) (pw_mono hm)⟩
end Go.Proofs.Ytllpllebmknmpaa
namespace Go.Proofs.Ytllpllebmknmpaa
open Go.RowKit

end Go.Proofs.Ytllpllebmknmpaa
namespace Go.Proofs.Ytllpllebmknmpaa
open Go.RowKit

end Go.Proofs.Ytllpllebmknmpaa
namespace Go.Proofs.Ytllpllebmknmpaa
open Go.RowKit

end Go.Proofs.Ytllpllebmknmpaa
namespace Go.Proofs.Ytllpllebmknmpaa
open Go.RowKit

theorem Try.infoRat : (Try.prog.info? 66).map (fun i => (i.zero, i.size, i.bytes)) = some (some (.agg #[.bool false, .slice none 0 0, .slice none 0 0]), 3, 56) := by kernel_rfl
theorem Rn.nm {L w q} {t : Nm} (h : Rn L w t.s t.x t.n t.c t.f t.y t.m t.d t.g q) (hL : L ≤ 65536) : NmR w t ∧ nfB t = true :=
  ⟨⟨h.rw, Nat.le_trans h.ln hL, Nat.le_trans h.ld hL⟩, h.rf⟩
/-- A row of n numbers in block B that may be written: no cell is a limb. -/
structure Rk (w : World) (B n : Nat) : Prop where
  z : B < w.heap.size
  has : ∀ o, o < n * 3 → ∃ u, w.cell? ⟨B, o, none⟩ = some u ∧ ∀ i, u ≠ Value.int .u64 i
  fz : ∀ o, w.frozen? ⟨B, o, none⟩ = false
theorem Rk.below {w w' B n} (h : Rk w B n) (hb : Below w.heap.size w w') : Rk w' B n := by
  obtain ⟨_, h2⟩ := bcell hb
  exact ⟨Nat.lt_of_lt_of_le h.z hb.size, fun o ho => by obtain ⟨u, h3, h4⟩ := h.has o ho; exact ⟨u, kCb hb h3, h4⟩, fun o => (h2 _ _ h.z).trans (h.fz o)⟩
theorem Rk.drew {w B n} (h : Rk w B n) : Rk w.drew B n := ⟨h.z, h.has, h.fz⟩
theorem Rk.set {w B n o u} (h : Rk w B n) (hu : ∀ i, u ≠ Value.int .u64 i) : Rk (w.setCell ⟨B, o, none⟩ u) B n :=
  ⟨by simpa [World.setCell] using h.z, fun o' ho' => by
    obtain ⟨u', h1, h2⟩ := h.has o' ho'
    by_cases e : o = o'
    · subst e; exact ⟨u, kCe (kI0 h1), hu⟩
    · exact ⟨u', kCo e h1, h2⟩, fun o' => kFs (h.fz o')⟩
theorem Rk.rd {w B n o u a k f} (h : Rk w B n) (ho : o < n * 3) (hx : Rd .u64 w a k f) : Rd .u64 (w.setCell ⟨B, o, none⟩ u) a k f := by
  obtain ⟨u', h1, h2⟩ := h.has o ho
  exact rd_setne h1 h2 hx
theorem Rk.rn {w B n o u L s x k c f y m d g q} (h : Rk w B n) (ho : o < n * 3) (hx : Rn L w s x k c f y m d g q) : Rn L (w.setCell ⟨B, o, none⟩ u) s x k c f y m d g q :=
  ⟨⟨h.rd ho hx.num.rd, hx.num.lm, hx.num.wf, hx.num.cap, hx.num.nil, hx.num.val⟩, ⟨h.rd ho hx.den.rd, hx.den.lm, hx.den.wf, hx.den.cap, hx.den.nil, hx.den.val⟩, hx.ln, hx.ld⟩
theorem below_at {w0 w : World} {B o : Nat} {u0 u1 u2 : Value} (hw : Below w0.heap.size w0 w) (hB : w0.heap.size ≤ B) :
    Below w0.heap.size w0 (((w.setCell ⟨B, o, none⟩ u0).setCell ⟨B, o + 1, none⟩ u1).setCell ⟨B, o + 2, none⟩ u2) :=
  below_turned hw hw.size ((((Turned.refl w0.heap.size (B + 1) w).set (x := ⟨B, o, none⟩) hB (by simp) _).set (x := ⟨B, o + 1, none⟩) hB (by simp) _).set (x := ⟨B, o + 2, none⟩) hB (by simp) _) (Nat.le_refl _)
/-- 'make([]api.Rat, n)'. -/
theorem wpList_make_rk {P : Program} (w : World) {ops : Array Oper} {rest : List Oper} {o : Oper} {a : Act} {Q : Exit → Act → World → Prop}
    (hg : o.guard = none) (l c : Operand) (t : TypeId) (hop : o.op = Op.makeSlice t l c)
    (e : TypeId) (bytes : Nat) (h1 : P.underlying t = some (.slice e)) (h2 : (P.info? e).map (fun i => (i.zero, i.size, i.bytes)) = some (some (.agg #[.bool false, .slice none 0 0, .slice none 0 0]), 3, bytes))
    (kl kc : IntKind) (L C : Int) (n : Nat) (hl : a.eval l = .int kl L) (hc : a.eval c = .int kc C) (hL : L = (n : Int)) (hC : C = (n : Int)) (b2 : bytes * n ≤ 281474976710656) (b3 : n ≤ maxLen)
    (hK : ∀ w', Rk w' w.heap.size n → Below w.heap.size w w' → wpList P ops Q rest (a.put o.dst (.slice (some ⟨w.heap.size, 0, none⟩) n n)) w') :
    wpList P ops Q (o :: rest) a w := by
  obtain ⟨i, hi, hz0, hz1, hz2⟩ := info_parts h2
  refine wpList_make_full w hg l c t hop w.heap.size e i _ 3 h1 hi hz0 hz1 kl kc L C n hl hc hL hC (by rw [hz2]; exact b2) b3 (Nat.le_refl _) ?_
  intro w' hown hgr
  refine hK w' ?_ ((Below.refl _ _).grown hgr (Nat.le_refl _) (fun k h => by cases h))
  obtain ⟨h1, h2⟩ := hown
  rcases h2 with ⟨hv, _⟩ | ⟨g, cap, cur, hv, hb, hg, hn, hm2, hs, ht⟩
  · cases hv
  · cases hv
    refine ⟨(Array.getElem?_eq_some_iff.1 hg).1, fun o ho => ?_, fun o => by simp [World.frozen?, hg]⟩
    have hlt : o < cur.size := by omega
    have h3 : cur.toList[o]? = (madeCells (Value.agg #[.bool false, .slice none 0 0, .slice none 0 0]).cells (n * 3)).toList[o]? := by rw [← ht, List.getElem?_take, if_pos (by omega)]
    have h4 : (madeCells (Value.agg #[.bool false, .slice none 0 0, .slice none 0 0]).cells (n * 3))[o]? = some ((Value.agg #[.bool false, .slice none 0 0, .slice none 0 0]).cells[o % 3]!) := by
      have hsz : (Value.agg #[.bool false, .slice none 0 0, .slice none 0 0]).cells.size = 3 := by rfl
      simp [madeCells, hsz, ho]
    refine ⟨_, (by simp only [World.cell?, hg]; simpa using h3.trans (by simpa using h4)), ?_⟩
    intro i
    rcases (show o % 3 = 0 ∨ o % 3 = 1 ∨ o % 3 = 2 by omega) with h | h | h <;> rw [h] <;> simp [Value.cells]
end Go.Proofs.Ytllpllebmknmpaa
namespace Go.Proofs.Ytllpllebmknmpaa
open Go.RowKit

end Go.Proofs.Ytllpllebmknmpaa
namespace Go.Proofs.Ytllpllebmknmpaa
open Go.RowKit

end Go.Proofs.Ytllpllebmknmpaa
namespace Go.Proofs.Ytllpllebmknmpaa
open Go.RowKit

theorem dWord_c {w : World} {V : Nat} (hV : V < 4294967296) :
    Calls Try.prog 57 #[.int .u64 (V : Int)] w fun e w' => ∃ z k c d, e = .returned (.slice z k c) ∧ Below w.heap.size w w' ∧ Hid (k ≤ 1 ∧ Dn w' z k d V) :=
  (word_c V w (by omega) (by omega)).mono (fun _ _ ⟨k, h1, h2, h3, h4, h5, h6⟩ => ⟨_, k, 2, _, h1, h2, h3, h4, fun j hj => ⟨by omega, by omega⟩, h6, by
    rcases (show k = 0 ∨ k = 1 by omega) with h | h
    · subst h; have := h5 rfl; simp [vd]; omega
    · subst h; simp [vd, pd]⟩)
end Go.Proofs.Ytllpllebmknmpaa
namespace Go.Proofs.Ytllpllebmknmpaa
open Go.RowKit

end Go.Proofs.Ytllpllebmknmpaa
namespace Go.Proofs.Ytllpllebmknmpaa
open Go.RowKit

end Go.Proofs.Ytllpllebmknmpaa
namespace Go.Proofs.Ytllpllebmknmpaa
open Go.RowKit

end Go.Proofs.Ytllpllebmknmpaa
namespace Go.Proofs.Ytllpllebmknmpaa
open Go.RowKit

end Go.Proofs.Ytllpllebmknmpaa
namespace Go.Proofs.Ytllpllebmknmpaa
open Go.RowKit

/-- A whole number of the reference: sign and digits. -/
structure Zn (w : World) (s : Bool) (x : Option Addr) (n : Nat) (d : Nat → Int) (v : Int) : Prop where
  dn : Dn w x n d v.natAbs
  sgn : v = sg s v.natAbs
  pos : s = true → 0 < n
theorem Zn.below {w w' s x n d v} (h : Zn w s x n d v) (hb : Below w.heap.size w w') : Zn w' s x n d v := ⟨h.dn.below hb, h.sgn, h.pos⟩
theorem Zn.alloc {w s x n d v} (h : Zn w s x n d v) (o : Obj) : Zn (w.alloc o) s x n d v := ⟨h.dn.alloc o, h.sgn, h.pos⟩
theorem Zn.of {w z k d V} {r s : Bool} (h : Dn w z k d V) (hr : r = (s && decide (0 < k))) : Zn w r z k d (sg s V) := by
  refine ⟨by rw [sg_natAbs]; exact h, ?_, fun h => by rw [hr] at h; simp at h; exact h.2⟩
  rw [sg_natAbs]
  rcases Nat.eq_zero_or_pos k with h0 | h0
  · subst h0
    have := h.zero
    subst this
    cases s <;> cases r <;> rfl
  · have : r = s := by rw [hr]; simp [h0]
    rw [this]
end Go.Proofs.Ytllpllebmknmpaa
namespace Go.Proofs.Ytllpllebmknmpaa
open Go.RowKit

/-- The error of two numbers. -/
def e2 (s : Bool) (f : Nat → Int) (n : Nat) (t : Bool) (h : Nat → Int) (m : Nat) : Int := if wfB s f n && wfB t h m then 0 else 3
end Go.Proofs.Ytllpllebmknmpaa
namespace Go.Proofs.Ytllpllebmknmpaa
open Go.RowKit

def kv (kind : Nat) (u v : Int) : Int := if kind = 0 then u + v else if kind = 1 then u - v else u * v
end Go.Proofs.Ytllpllebmknmpaa
namespace Go.Proofs.Ytllpllebmknmpaa
open Go.RowKit

theorem Dn.one_iff {w x k d V} (h : Dn w x k d V) : V = 1 ↔ k = 1 ∧ d 0 = 1 := by
  constructor
  · intro hV
    have h1 : Dg (fun _ => (1 : Int)) 1 := fun j _ => ⟨show (0 : Int) ≤ 1 by decide, show (1 : Int) < 4294967296 by decide⟩
    have h2 : vd (fun _ => (1 : Int)) 1 = 1 := by decide
    obtain ⟨e1, e2⟩ := vd_inj h.dg h1 h.fm (.inr (by decide)) (by rw [h.val, hV, h2]; rfl)
    exact ⟨e1, e2 0 (by omega)⟩
  · rintro ⟨rfl, h0⟩
    have := h.val
    simp [vd, pd, h0] at this
    omega

end Go.Proofs.Ytllpllebmknmpaa
namespace Go.Proofs.Ytllpllebmknmpaa
open Go.RowKit

end Go.Proofs.Ytllpllebmknmpaa
namespace Go.Proofs.Ytllpllebmknmpaa
open Go.RowKit

/-- A rational number of the reference. -/
structure Qn (w : World) (s : Bool) (x : Option Addr) (n : Nat) (d : Nat → Int) (y : Option Addr) (m : Nat) (g : Nat → Int) (q : Rat) : Prop where
  num : Zn w s x n d q.num
  den : Dn w y m g q.den
theorem Qn.below {w w' s x n d y m g q} (h : Qn w s x n d y m g q) (hb : Below w.heap.size w w') : Qn w' s x n d y m g q := ⟨h.num.below hb, h.den.below hb⟩
theorem Qn.alloc {w s x n d y m g q} (h : Qn w s x n d y m g q) (o : Obj) : Qn (w.alloc o) s x n d y m g q := ⟨h.num.alloc o, h.den.alloc o⟩
theorem Ob.zn {w B u0 u1 u2 s x n d v} (h : Ob w B) (hx : Zn w s x n d v) : Zn (((w.setCell ⟨B, 0, none⟩ u0).setCell ⟨B, 1, none⟩ u1).setCell ⟨B, 2, none⟩ u2) s x n d v := ⟨h.dn hx.dn, hx.sgn, hx.pos⟩
theorem Ob.qn {w B u0 u1 u2 s x n d y m g q} (h : Ob w B) (hx : Qn w s x n d y m g q) : Qn (((w.setCell ⟨B, 0, none⟩ u0).setCell ⟨B, 1, none⟩ u1).setCell ⟨B, 2, none⟩ u2) s x n d y m g q := ⟨h.zn hx.num, h.dn hx.den⟩
/-- What a call answers: a rational number of the reference. -/
def QAns (L : Nat) (w w' : World) (e : Ending) (q : Rat) : Prop := ∃ s x n c d y m c' g, e = .returned (.agg #[.bool s, .slice x n c, .slice y m c']) ∧ Below w.heap.size w w' ∧ n ≤ L ∧ m ≤ L ∧ Qn w' s x n d y m g q
end Go.Proofs.Ytllpllebmknmpaa
namespace Go.Proofs.Ytllpllebmknmpaa
open Go.RowKit

end Go.Proofs.Ytllpllebmknmpaa
namespace Go.Proofs.Ytllpllebmknmpaa
open Go.RowKit

end Go.Proofs.Ytllpllebmknmpaa
namespace Go.Proofs.Ytllpllebmknmpaa
open Go.RowKit

end Go.Proofs.Ytllpllebmknmpaa
namespace Go.Proofs.Ytllpllebmknmpaa
open Go.RowKit

end Go.Proofs.Ytllpllebmknmpaa
namespace Go.Proofs.Ytllpllebmknmpaa
open Go.RowKit

/-- To, on a rational number of the reference. -/
theorem qToR_c {w : World} {s : Bool} {x : Option Addr} {n c : Nat} {d : Nat → Int} {y : Option Addr} {m e : Nat} {g : Nat → Int} {q : Rat} (h : Qn w s x n d y m g q) (hn : n ≤ 131072) (hm : m ≤ 131072) :
    Calls Try.prog 46 #[.agg #[.bool s, .slice x n c, .slice y m e]] w fun en w' => ∃ z k c' f z2 k2 c2 f2, en = .returned (.agg #[.bool s, .slice z k c', .slice z2 k2 c2]) ∧ Below w.heap.size w w' ∧ Hid (Rn (n + m) w' s z k c' f z2 k2 c2 f2 q) := by
  refine (qTo_c h.num.dn h.den hn hm).mono ?_
  rintro en w' ⟨z, k, c', f, z2, k2, c2, f2, rfl, h2, h3, h4, h5, h6, _, _⟩
  refine ⟨z, k, c', f, z2, k2, c2, f2, rfl, h2, ⟨h5.rd, h5.lm, (wfB_iff _ _ _).2 ⟨fm_of_wfB h5.wf, fun hs => ?_⟩, h5.cap, h5.nil, ?_⟩, h6, by omega, by omega⟩
  · have h0 := h.num.dn.pos' (h.num.pos hs)
    rcases Nat.eq_zero_or_pos k with hk | hk
    · subst hk
      have hv := h5.val
      rw [wv_false] at hv
      have : (0 : Int) = q.num.natAbs := hv
      omega
    · exact hk
  · have hv := h5.val
    rw [wv_false] at hv
    have hs := h.num.sgn
    cases s
    · rw [wv_false, hv]; exact hs.symm
    · rw [wv_true, hv]; exact hs.symm
end Go.Proofs.Ytllpllebmknmpaa
namespace Go.Proofs.Ytllpllebmknmpaa
open Go.RowKit

end Go.Proofs.Ytllpllebmknmpaa
namespace Go.Proofs.Ytllpllebmknmpaa
open Go.RowKit

theorem zIntE_c {w : World} {z : Int} (h0 : -9223372036854775808 ≤ z) (h1 : z ≤ 9223372036854775807) :
    Calls Try.prog 56 #[.int .i64 z] w fun e w' => ∃ s x n c d, e = .returned (.agg #[.bool s, .slice x n c]) ∧ Below w.heap.size w w' ∧ Hid (n ≤ 2 ∧ Zn w' s x n d z) := by
  refine (zInt_c z w h0 h1).mono ?_
  rintro e w' ⟨s, x, n, c, d, rfl, h⟩
  have h2 := vd_nonneg h.dg
  have hv := h.val
  cases s
  · have hv' : vd d n = z := hv
    exact ⟨false, x, n, c, d, rfl, h.bel, h.le, ⟨h.rd, h.dg, h.fm, by omega⟩, by show z = (z.natAbs : Int); omega, h.sgn⟩
  · have hv' : - vd d n = z := hv
    exact ⟨true, x, n, c, d, rfl, h.bel, h.le, ⟨h.rd, h.dg, h.fm, by omega⟩, by show z = -(z.natAbs : Int); omega, h.sgn⟩

set_option maxRecDepth 100000 in
set_option maxHeartbeats 4000000 in
theorem qInt_c {w : World} {z : Int} (h0 : -9223372036854775808 ≤ z) (h1 : z ≤ 9223372036854775807) :
    Calls Try.prog 47 #[.int .i64 z] w fun e w' => QAns 2 w w' e (z : Rat) := by
  have h2 := ob_new w 102
  have h3 := below_alloc (Below.refl w.heap.size w) (.cells #[.bool false, .slice none 0 0, .slice none 0 0] 102)
  go_enter Try.func47, Try.ntmps47
  go_wp2_with fail
  generalize w.alloc (.cells #[.bool false, .slice none 0 0, .slice none 0 0] 102) = w1 at *
  have OB := hid h2; have HW := hid h3
  clear h2 h3
  refine (zIntE_c h0 h1).mono ?_
  rintro e w2 ⟨s2, x2, n2, c2, d2, rfl, hb, H2⟩
  have HB2 := hid hb
  clear hb
  go_wp2_with fail
  refine (dWord_c (V := 1) (by decide)).mono ?_
  rintro e w3 ⟨z3, k3, c3, d3, rfl, hb, H3⟩
  have HB3 := hid (HB2.out.trans (hb.mono HB2.out.size)); have Z3 := hid (H2.out.2.below hb)
  have hk3 := H3.out.1; have hn2 := H2.out.1
  clear hb
  obtain ⟨hz, z0, z1, z2, zf⟩ := OB.out.below HB3.out
  go_wp2
  refine bodyPost_ret (v := .agg #[.bool s2, .slice x2 n2 c2, .slice z3 k3 c3]) (by simp [results, Try.results47, go_sem, z0, z1, z2]) rfl ⟨s2, x2, n2, c2, d2, z3, k3, c3, d3, rfl, below_st (HW.out.trans (HB3.out.mono HW.out.size)) (by omega), by omega, by omega, (OB.out.below HB3.out).qn ⟨?_, ?_⟩⟩
  · rw [Rat.num_intCast]; exact Z3.out
  · rw [Rat.den_intCast]; exact H3.out.2

set_option maxRecDepth 100000 in
set_option maxHeartbeats 4000000 in
theorem docOfQ_c {w : World} {z : Int} (h0 : -9223372036854775808 ≤ z) (h1 : z ≤ 9223372036854775807) :
    Calls Try.prog 29 #[.int .i64 z] w fun e w' => RatAns 4 w w' e (z : Rat) := by
  have h2 := ob_new w 66
  have h3 := below_alloc (Below.refl w.heap.size w) (.cells #[.bool false, .slice none 0 0, .slice none 0 0] 66)
  go_enter Try.func29, Try.ntmps29
  go_wp2_with fail
  generalize w.alloc (.cells #[.bool false, .slice none 0 0, .slice none 0 0] 66) = w1 at *
  have OB := hid h2; have HW := hid h3
  clear h2 h3
  refine (qInt_c h0 h1).mono ?_
  rintro e w2 ⟨s2, x2, n2, c2, d2, y2, m2, e2, g2, rfl, hb, hl1, hl2, hq⟩
  have HB2 := hid hb; have HQ := hid hq
  clear hb hq
  go_wp2_with fail
  refine (qToR_c HQ.out (by omega) (by omega)).mono ?_
  rintro e w3 ⟨z3, k3, c3, f3, y3, m3, e3, g3, rfl, hb, R3⟩
  have HB3 := hid (HB2.out.trans (hb.mono HB2.out.size))
  clear hb
  obtain ⟨hz, z0, z1, z2, zf⟩ := OB.out.below HB3.out
  go_wp2
  exact bodyPost_ret (v := .agg #[.bool s2, .slice z3 k3 c3, .slice y3 m3 e3]) (by simp [results, Try.results29, go_sem, z0, z1, z2]) rfl ⟨s2, z3, k3, c3, f3, y3, m3, e3, g3, rfl, below_st (HW.out.trans (HB3.out.mono HW.out.size)) (by omega), (OB.out.below HB3.out).rn (R3.out.mono (by omega))⟩
end Go.Proofs.Ytllpllebmknmpaa
namespace Go.Proofs.Ytllpllebmknmpaa
open Go.RowKit

theorem size_st3 (w : World) (B : Nat) (u0 u1 u2 : Value) : (((w.setCell ⟨B, 0, none⟩ u0).setCell ⟨B, 1, none⟩ u1).setCell ⟨B, 2, none⟩ u2).heap.size = w.heap.size := by simp [World.setCell]
theorem Ob.put {w B} (h : Ob w B) (u0 u1 u2 : Value) : Bx3 (((w.setCell ⟨B, 0, none⟩ u0).setCell ⟨B, 1, none⟩ u1).setCell ⟨B, 2, none⟩ u2) B u0 u1 u2 :=
  ⟨by rw [size_st3]; exact h.z, kCo (by decide) (kCo (by decide) (kCe (kI0 h.z0))), kCo (by decide) (kCe (kIs (kI0 h.z1))), kCe (kIs (kIs (kI0 h.z2)))⟩
def kq (kind : Nat) (a b : Rat) : Rat := if kind = 0 then a + b else if kind = 1 then a - b else if kind = 2 then a * b else a / b
end Go.Proofs.Ytllpllebmknmpaa
namespace Go.Proofs.Ytllpllebmknmpaa
open Go.RowKit

end Go.Proofs.Ytllpllebmknmpaa
namespace Go.Proofs.Ytllpllebmknmpaa
open Go.RowKit

end Go.Proofs.Ytllpllebmknmpaa
namespace Go.Proofs.Ytllpllebmknmpaa
open Go.RowKit

end Go.Proofs.Ytllpllebmknmpaa
namespace Go.Proofs.Ytllpllebmknmpaa
open Go.RowKit

end Go.Proofs.Ytllpllebmknmpaa
namespace Go.Proofs.Ytllpllebmknmpaa
open Go.RowKit

theorem Rw.kp {w w' x n c f y m d g} (h : Rw w x n c f y m d g) (hk : Kp w w') : Rw w' x n c f y m d g := ⟨h.rx.kp hk, h.lx, h.cx, h.nx, h.ry.kp hk, h.ly, h.cy, h.ny⟩
def putN (T : Nat → Nm) (i : Nat) (t : Nm) : Nat → Nm := fun j => if j = i then t else T j
theorem putN_at (T : Nat → Nm) (i : Nat) (t : Nm) : putN T i t i = t := by simp [putN]
theorem putN_ne {T : Nat → Nm} {i j : Nat} {t : Nm} (h : j ≠ i) : putN T i t j = T j := by simp [putN, h]
end Go.Proofs.Ytllpllebmknmpaa
namespace Go.Proofs.Ytllpllebmknmpaa
open Go.RowKit

end Go.Proofs.Ytllpllebmknmpaa
namespace Go.Proofs.Ytllpllebmknmpaa
open Go.RowKit

/-- The same number elsewhere. -/
def Sn (t t' : Nm) : Prop := t'.s = t.s ∧ t'.n = t.n ∧ t'.f = t.f ∧ t'.m = t.m ∧ t'.g = t.g
theorem Sn.nfB {t t' : Nm} (h : Sn t t') : nfB t' = nfB t := by
  obtain ⟨h1, h2, h3, h4, h5⟩ := h
  unfold Go.Proofs.Ytllpllebmknmpaa.nfB
  rw [h1, h2, h3, h4, h5]
theorem Rn.sn {L : Nat} {w w' : World} {t t' : Nm} {q : Rat} (h : Rn L w t.s t.x t.n t.c t.f t.y t.m t.d t.g q) (hs : Sn t t') (hr : Rw w' t'.x t'.n t'.c t'.f t'.y t'.m t'.d t'.g) : Rn L w' t'.s t'.x t'.n t'.c t'.f t'.y t'.m t'.d t'.g q := by
  obtain ⟨s, x, n, c, f, y, m, d, g⟩ := t
  obtain ⟨s', x', n', c', f', y', m', d', g'⟩ := t'
  obtain ⟨rfl, rfl, rfl, rfl, rfl⟩ := hs
  exact ⟨⟨hr.rx, hr.lx, h.num.wf, hr.cx, hr.nx, h.num.val⟩, ⟨hr.ry, hr.ly, h.den.wf, hr.cy, hr.ny, h.den.val⟩, h.ln, h.ld⟩

end Go.Proofs.Ytllpllebmknmpaa
namespace Go.Proofs.Ytllpllebmknmpaa
open Go.RowKit

theorem Dn.kp {w w' x n d V} (h : Dn w x n d V) (hk : Kp w w') : Dn w' x n d V := ⟨h.rd.kp hk, h.dg, h.fm, h.val⟩
theorem Qn.kp {w w' s x n d y m g q} (h : Qn w s x n d y m g q) (hk : Kp w w') : Qn w' s x n d y m g q := ⟨⟨h.num.dn.kp hk, h.num.sgn, h.num.pos⟩, h.den.kp hk⟩
end Go.Proofs.Ytllpllebmknmpaa
namespace Go.Proofs.Ytllpllebmknmpaa
open Go.RowKit

end Go.Proofs.Ytllpllebmknmpaa
namespace Go.Proofs.Ytllpllebmknmpaa
open Go.RowKit

/-- A stack without steps, of a model of n columns and k rows. -/
structure Sk (w : World) (B : Nat) (n k : Int) : Prop where
  c0 : w.cell? ⟨B, 0, none⟩ = some (.int .i64 n)
  c1 : w.cell? ⟨B, 1, none⟩ = some (.int .i64 k)
  c2 : w.cell? ⟨B, 2, none⟩ = some (.int .i64 n)
  c3 : w.cell? ⟨B, 3, none⟩ = some (.int .i64 k)
  c4 : w.cell? ⟨B, 4, none⟩ = some (.pointer none)
  c5 : w.cell? ⟨B, 5, none⟩ = some (.bool false)
theorem Sk.below {w w' B n k} (h : Sk w B n k) (hb : Below w.heap.size w w') : Sk w' B n k := ⟨kCb hb h.c0, kCb hb h.c1, kCb hb h.c2, kCb hb h.c3, kCb hb h.c4, kCb hb h.c5⟩
theorem Sk.lt {w B n k} (h : Sk w B n k) : B < w.heap.size := World.block_lt_of_cell? w _ h.c0

theorem snew_c {w : World} {n k : Int} (h1 : 0 ≤ n) (h2 : n ≤ 64) (h3 : 0 ≤ k) (h4 : k ≤ 64) :
    Calls Try.prog 9 #[.int .i64 n, .int .i64 k] w fun e w' => ∃ B, e = .returned (.tuple #[.pointer (some ⟨B, 0, none⟩), .int .i64 0]) ∧ Below w.heap.size w w' ∧ Hid (w.heap.size ≤ B ∧ Sk w' B n k) := by
  have i1 : ¬ n < 0 := by omega
  have i2 : ¬ (64 : Int) < n := by omega
  have i3 : ¬ k < 0 := by omega
  have i4 : ¬ (64 : Int) < k := by omega
  go_enter Try.func9, Try.ntmps9
  go_wp2
  go_ret2
  refine ⟨_, rfl, below_alloc (below_alloc (Below.refl _ _) _) _, ?_, ?_⟩
  · simp
  · refine ⟨?_, ?_, ?_, ?_, ?_, ?_⟩ <;> simp [go_sem]
theorem snewE_c {w : World} {n k : Int} (h : n < 0 ∨ 64 < n ∨ k < 0 ∨ 64 < k) :
    Calls Try.prog 9 #[.int .i64 n, .int .i64 k] w fun e w' => e = .returned (.tuple #[.pointer none, .int .i64 1]) ∧ w' = w := by
  by_cases h1 : n < 0
  · go_enter Try.func9, Try.ntmps9
    go_wp2
    go_ret2
    exact ⟨rfl, rfl⟩
  by_cases h2 : (64 : Int) < n
  · go_enter Try.func9, Try.ntmps9
    go_wp2
    go_ret2
    exact ⟨rfl, rfl⟩
  by_cases h3 : k < 0
  · go_enter Try.func9, Try.ntmps9
    go_wp2
    go_ret2
    exact ⟨rfl, rfl⟩
  have h4 : (64 : Int) < k := by omega
  go_enter Try.func9, Try.ntmps9
  go_wp2
  go_ret2
  exact ⟨rfl, rfl⟩
theorem ssize_c {w : World} {B : Nat} {n k : Int} (h : Sk w B n k) :
    Calls Try.prog 10 #[.pointer (some ⟨B, 0, none⟩)] w fun e w' => e = .returned (.tuple #[.int .i64 n, .int .i64 k, .int .i64 n, .int .i64 k]) ∧ Below w.heap.size w w' := by
  obtain ⟨c0, c1, c2, c3, c4, c5⟩ := h
  go_enter Try.func10, Try.ntmps10
  go_upto_region 3 with fail
  go_quiet (fail)
  go_wp2
  exact bodyPost_ret (v := .tuple #[.int .i64 n, .int .i64 k, .int .i64 n, .int .i64 k]) (by simp [results, Try.results10, go_sem]) rfl ⟨rfl, by first | exact Below.refl _ _ | exact Below.drew (Below.refl _ _) | exact below_drewN (Below.refl _ _) _⟩
theorem stight_c {w : World} {B : Nat} {n k : Int} (h : Sk w B n k) :
    Calls Try.prog 11 #[.pointer (some ⟨B, 0, none⟩)] w fun e w' => e = .returned (.bool false) ∧ w' = w := by
  obtain ⟨c0, c1, c2, c3, c4, c5⟩ := h
  go_enter Try.func11, Try.ntmps11
  go_wp2
  go_ret
  exact ⟨rfl, rfl⟩

/-- The error of a list of numbers that must have z of them. -/
def pnE (k : Nat) (X : Nat → Nm) (z : Int) : Int := if afB k X = true then (if (k : Int) = z then 0 else 7) else 3
set_option maxRecDepth 100000 in
set_option maxHeartbeats 4000000 in
theorem pNumbers_c {w : World} {ao : Option Addr} {k cap : Nat} {X : Nat → Nm} {z : Int} (h : Rl w ao k X) (hk : k ≤ 1048576) :
    Calls Try.prog 43 #[.slice ao k cap, .int .i64 z] w fun e w' => e = .returned (.int .i64 (pnE k X z)) ∧ Below w.heap.size w w' := by
  have H := hid h
  clear h
  go_enter Try.func43, Try.ntmps43
  go_wp2_with fail
  go_loopw [9] (fun t wr => ∃ (i : Nat), i ≤ k ∧ t = .int .i64 i ∧ Hid (Below w.heap.size w wr) ∧ Hid (afB k X = afr X (k - i) i)) (fun t _ => k - (intOf t).toNat)
  case atStart => exact ⟨0, by omega, rfl, Below.refl _ _, rfl⟩
  case round =>
    obtain ⟨i, hi, rfl, HB, HT⟩ := hrel
    by_cases hlt : i < k
    · obtain ⟨b, o, rfl, hc, hn, hn1, hn2⟩ := (H.out.below HB.out) i hlt
      obtain ⟨r, hr⟩ : ∃ r, k - i = r + 1 := ⟨k - i - 1, by omega⟩
      have hT : afB k X = (nfB (X i) && afr X r (i + 1)) := by rw [HT.out, hr]; rfl
      have hr2 : k - (i + 1) = r := by omega
      obtain ⟨⟨s, x, n, c, f, y, m, d, g⟩, hTi⟩ : ∃ t, X i = t := ⟨_, rfl⟩
      rw [hTi] at hc hn hn1 hn2 hT
      obtain ⟨x0, x1, x2⟩ := hc
      replace x0 : wr.cell? ⟨b, o + i * 3, none⟩ = some (.bool s) := x0
      replace x1 : wr.cell? ⟨b, o + i * 3 + 1, none⟩ = some (.slice x n c) := x1
      replace x2 : wr.cell? ⟨b, o + i * 3 + 2, none⟩ = some (.slice y m d) := x2
      replace hn : Rw wr x n c f y m d g := hn
      replace hn1 : n ≤ 65536 := hn1
      replace hn2 : m ≤ 65536 := hn2
      have hblk : Below wr.heap.size wr (wr.alloc (.cells #[.bool s, .slice x n c, .slice y m d] 66)) := below_alloc (Below.refl _ _) _
      have CF := hid (rForm_c (s := s) (hn.below hblk) (by omega) (by omega))
      have HTi := hid hT; have HR2 := hid hr2
      have i1 : ((i : Nat) : Int) < ((k : Nat) : Int) := by omega
      clear hT hr2 hTi hr hn hblk
      cases hf : rfB s f n g m
      · have CF2 := CF
        rw [hf] at CF2
        have HNF : Hid (nfB ⟨s, x, n, c, f, y, m, d, g⟩ = false) := hf
        clear CF hf
        go_wp2_with fail
        refine CF2.out.mono ?_
        rintro e w1 ⟨rfl, hb1⟩
        obtain ⟨_, _, _, _, hb2⟩ := box3 hb1
        go_wp2
        go_ret
        refine ⟨?_, HB.out.trans (hb2.mono HB.out.size)⟩
        rw [pnE, HTi.out, HNF.out]; rfl
      · have CF2 := CF
        rw [hf] at CF2
        have HNF : Hid (nfB ⟨s, x, n, c, f, y, m, d, g⟩ = true) := hf
        clear CF hf
        go_wp2_with fail
        refine CF2.out.mono ?_
        rintro e w1 ⟨rfl, hb1⟩
        obtain ⟨_, _, _, _, hb2⟩ := box3 hb1
        have HB2 := hid (HB.out.trans (hb2.mono HB.out.size))
        clear hb1 hb2
        go_wp2
        go_roundw
        case rel =>
          refine ⟨i + 1, by omega, by go_num, HB2.out, ?_⟩
          show _ = _
          rw [HTi.out, HNF.out, HR2.out]; rfl
        case measure => simp [intOf]; omega
    · have e1 : i = k := by omega
      have HTe : Hid (afB k X = true) := by
        show _ = _
        rw [HT.out, e1, Nat.sub_self]; rfl
      have i2 : ¬ (((i : Nat) : Int) < ((k : Nat) : Int)) := by omega
      clear e1 HT
      by_cases hz : ((k : Nat) : Int) = z
      · have hz1 : (((k : Nat) : Int) != z) = false := by simpa using hz
        have HZ := hid (show pnE k X z = 0 by rw [pnE, HTe.out]; simp [hz])
        clear hz
        go_wp2
        go_ret
        refine ⟨?_, HB.out⟩
        rw [HZ.out]; rfl
      · have hz1 : (((k : Nat) : Int) != z) = true := by simpa using hz
        have HZ := hid (show pnE k X z = 7 by rw [pnE, HTe.out]; simp [hz])
        clear hz
        go_wp2
        go_ret
        refine ⟨?_, HB.out⟩
        rw [HZ.out]; rfl

/-- Three stores into a box leave a list of a call's own. -/
theorem own_st {w : World} {B base : Nat} {u0 u1 u2 : Value} {x : Option Addr} {n c : Nat} {f : Nat → Int} (h : Own .u64 63 w base (.slice x n c) n f) (hB : B < base) : Own .u64 63 (((w.setCell ⟨B, 0, none⟩ u0).setCell ⟨B, 1, none⟩ u1).setCell ⟨B, 2, none⟩ u2) base (.slice x n c) n f :=
  h.of (fun a ha => by
    have hne : a.block ≠ B := by have := (h.slice.2.2.2.2 a ha).1; omega
    rw [Below.heap_setCell _ _ _ _ hne, Below.heap_setCell _ _ _ _ hne, Below.heap_setCell _ _ _ _ hne])
set_option maxRecDepth 100000 in
set_option maxHeartbeats 4000000 in
theorem rCopy_o {w : World} {sa : Bool} {xa : Option Addr} {na ca : Nat} {fa : Nat → Int} {ya : Option Addr} {ma da : Nat} {ga : Nat → Int} (ha : Rw w xa na ca fa ya ma da ga) (hn : na ≤ 1048576) (hm : ma ≤ 1048576) :
    Calls Try.prog 54 #[.agg #[.bool sa, .slice xa na ca, .slice ya ma da]] w fun e w' => ∃ x c y d, e = .returned (.agg #[.bool sa, .slice x na c, .slice y ma d]) ∧ Below w.heap.size w w' ∧ Hid (Own .u64 63 w' w.heap.size (.slice x na c) na fa ∧ Own .u64 63 w' w.heap.size (.slice y ma d) ma ga) := by
  have h1 := (ha.alloc (.cells #[.bool sa, .slice xa na ca, .slice ya ma da] 66)).alloc (.cells #[.bool false, .slice none 0 0, .slice none 0 0] 66)
  have h3 := ob_new (w.alloc (.cells #[.bool sa, .slice xa na ca, .slice ya ma da] 66)) 66
  rw [size_alloc1] at h3
  have h4 := below_alloc (below_alloc (Below.refl w.heap.size w) (.cells #[.bool sa, .slice xa na ca, .slice ya ma da] 66)) (.cells #[.bool false, .slice none 0 0, .slice none 0 0] 66)
  have h5 := (bx3_at w (.bool sa) (.slice xa na ca) (.slice ya ma da) 66).alloc (.cells #[.bool false, .slice none 0 0, .slice none 0 0] 66)
  have h6 : ((w.alloc (.cells #[.bool sa, .slice xa na ca, .slice ya ma da] 66)).alloc (.cells #[.bool false, .slice none 0 0, .slice none 0 0] 66)).heap.size = w.heap.size + 1 + 1 := by simp
  clear ha
  go_enter Try.func54, Try.ntmps54
  go_wp2_with fail
  generalize (w.alloc (.cells #[.bool sa, .slice xa na ca, .slice ya ma da] 66)).alloc (.cells #[.bool false, .slice none 0 0, .slice none 0 0] 66) = w1 at *
  have HA := hid h1; have OB := h3; have HW := hid h4; have H6 := hid h6
  obtain ⟨hz, z0, z1, z2, zf⟩ := h3
  obtain ⟨hy, x0, x1, x2⟩ := h5
  clear h1 h4 h6
  have C1 : Hid (∀ W, Below w1.heap.size w1 W → Calls Try.prog 66 #[.slice xa na ca] W fun e w' => ∃ z c', e = .returned (.slice z na c') ∧ Below W.heap.size W w' ∧ Hid (Own .u64 63 w' w1.heap.size (.slice z na c') na fa)) := fun W hW => (rclone_c xa na ca fa W hn (HA.out.below hW).rx (HA.out.below hW).nx).mono (fun _ _ ⟨z, c', a1, a2, a3⟩ => ⟨z, c', a1, a2, a3.base hW.size⟩)
  have C2 : Hid (∀ W, Below w1.heap.size w1 W → Calls Try.prog 66 #[.slice ya ma da] W fun e w' => ∃ z c', e = .returned (.slice z ma c') ∧ Below W.heap.size W w' ∧ Hid (Own .u64 63 w' w1.heap.size (.slice z ma c') ma ga)) := fun W hW => (rclone_c ya ma da ga W hm (HA.out.below hW).ry (HA.out.below hW).ny).mono (fun _ _ ⟨z, c', a1, a2, a3⟩ => ⟨z, c', a1, a2, a3.base hW.size⟩)
  go_region_held3 (fun w' => w'.cell? ⟨w.heap.size, 0, none⟩ = some (.bool sa) ∧ w'.cell? ⟨w.heap.size, 1, none⟩ = some (.slice xa na ca) ∧ w'.cell? ⟨w.heap.size, 2, none⟩ = some (.slice ya ma da) ∧ (w'.cell? ⟨w.heap.size + 1, 0, none⟩).isSome = true ∧ (w'.cell? ⟨w.heap.size + 1, 1, none⟩).isSome = true ∧ (w'.cell? ⟨w.heap.size + 1, 2, none⟩).isSome = true ∧ w'.frozen? ⟨w.heap.size + 1, 0, none⟩ = false ∧ w'.frozen? ⟨w.heap.size + 1, 1, none⟩ = false ∧ w'.frozen? ⟨w.heap.size + 1, 2, none⟩ = false)
    (refine ⟨?_, ?_, ?_, ?_, ?_, ?_, ?_, ?_, ?_⟩ <;> repeat (with_reducible first | assumption | exact zf _ | exact kI0 z0 | exact kI0 z1 | exact kI0 z2 | exact tf _ | exact kI0 t0 | exact kI0 t1 | exact kI0 t2 | exact uf _ | exact kI0 u0 | exact kI0 u1 | exact kI0 u2 | refine kCd ?_ | refine kId ?_ | refine kFd ?_ | refine kCs (by simp only [ne_eq]; omega) ?_ | refine kIs ?_ | refine kFs ?_ | refine kCb (by assumption) ?_ | refine kIb (by assumption) ?_))
    (first
      | (go_at_call 66; with_reducible refine (C1.out _ (by repeat (with_reducible first | assumption | exact Below.refl _ _ | refine Below.drew ?_ | refine kBa ?_ | refine kBb (by assumption) ?_))).mono ?_; rintro e w5 ⟨zp, cp, rfl, hb5, HP⟩; have TU : Ob w5 (w.heap.size + 1) := (by repeat (with_reducible first | exact OB | exact TU | exact TV | refine Ob.drew ?_ | refine kOb (by assumption) ?_)); obtain ⟨_, t0, t1, t2, tf⟩ := id TU)
      | (go_at_call 66; with_reducible refine (C2.out _ (by repeat (with_reducible first | assumption | exact Below.refl _ _ | refine Below.drew ?_ | refine kBa ?_ | refine kBb (by assumption) ?_))).mono ?_; rintro e w6 ⟨zq, cq, rfl, hb6, HQ⟩; have TV : Ob w6 (w.heap.size + 1) := (by repeat (with_reducible first | exact OB | exact TU | exact TV | refine Ob.drew ?_ | refine kOb (by assumption) ?_)); obtain ⟨_, u0, u1, u2, uf⟩ := id TV))
  have WA := HP.out.below hb6
  have hb : Below w1.heap.size w1 w6 := (by repeat (with_reducible first | assumption | exact Below.refl _ _ | refine Below.drew ?_ | refine kBa ?_ | refine kBb (by assumption) ?_))
  have h6 := H6.out
  go_wp2
  exact bodyPost_ret (v := .agg #[.bool sa, .slice zp na cp, .slice zq ma cq]) (by simp [results, Try.results54, go_sem, u0, u1, u2]) rfl ⟨zp, cp, zq, cq, rfl, below_st (HW.out.trans (hb.mono HW.out.size)) (by omega), (own_st WA (by omega)).base (by omega), (own_st HQ.out (by omega)).base (by omega)⟩

/-- The first limb of a list that is not empty may be written, and lies at or above a place. -/
def Dw (w : World) (base : Nat) (y : Option Addr) (m : Nat) : Prop := 0 < m → ∃ b, y = some ⟨b, 0, none⟩ ∧ base ≤ b ∧ (∃ q, w.cell? ⟨b, 0, none⟩ = some (.int .u64 q)) ∧ w.frozen? ⟨b, 0, none⟩ = false
theorem Dw.below {w w' base y m} (h : Dw w base y m) (hb : Below w.heap.size w w') : Dw w' base y m := fun hm => by
  obtain ⟨b, h1, h2, ⟨q, h3⟩, h4⟩ := h hm
  obtain ⟨_, h5⟩ := bcell hb
  exact ⟨b, h1, h2, ⟨q, kCb hb h3⟩, (h5 _ _ (World.block_lt_of_cell? w _ h3)).trans h4⟩
theorem own_dw {w base y m d g} (h : Own .u64 63 w base (.slice y m d) m g) : Dw w base y m := fun hm => by
  obtain ⟨h1, h2⟩ := h
  rcases h2 with ⟨h3, h4⟩ | ⟨B, cap', cur, hv, hb, hg, hn, hmx, hs, ht⟩
  · cases h3; omega
  · cases hv
    refine ⟨B, rfl, hb, ⟨g 0, ?_⟩, by simp [World.frozen?, hg]⟩
    have h5 : cur.toList[0]? = (lst .u64 g m)[0]? := by rw [← ht, List.getElem?_take, if_pos (by omega)]
    have h6 : (lst .u64 g m)[0]? = some (.int .u64 (g 0)) := by
      obtain ⟨m', rfl⟩ : ∃ m', m = m' + 1 := ⟨m - 1, by omega⟩
      have hl : 0 < (lst .u64 g (m' + 1)).length := by rw [lst_length]; omega
      obtain ⟨u, hu⟩ : ∃ u, (lst .u64 g (m' + 1))[0]? = some u := ⟨_, List.getElem?_eq_getElem hl⟩
      obtain ⟨_, rfl⟩ := lst_getE hu
      exact hu
    simp only [World.cell?, hg]
    simpa using h5.trans h6
theorem Dw.set {w base y m p u v} (h : Dw w base y m) (hp : w.cell? p = some v) (hv : ∀ i, v ≠ .int .u64 i) : Dw (w.setCell p u) base y m := fun hm => by
  obtain ⟨b, h1, h2, ⟨q, h3⟩, h4⟩ := h hm
  refine ⟨b, h1, h2, ⟨q, ?_⟩, kFs h4⟩
  rw [World.cell?_setCell_other _ _ _ _ (fun he => hv _ (Option.some.inj (hp.symm.trans (he ▸ h3))))]
  exact h3
/-- What a copied number is. -/
def Cn (w : World) (base : Nat) (t t' : Nm) : Prop := Sn t t' ∧ Rw w t'.x t'.n t'.c t'.f t'.y t'.m t'.d t'.g ∧ Dw w base t'.y t'.m
theorem Cn.below {w w' base t t'} (h : Cn w base t t') (hb : Below w.heap.size w w') : Cn w' base t t' := ⟨h.1, h.2.1.below hb, h.2.2.below hb⟩
theorem Cn.set {w base t t' p u v} (h : Cn w base t t') (hp : w.cell? p = some v) (hv : ∀ i, v ≠ .int .u64 i) : Cn (w.setCell p u) base t t' :=
  ⟨h.1, ⟨rd_setne hp hv h.2.1.rx, h.2.1.lx, h.2.1.cx, h.2.1.nx, rd_setne hp hv h.2.1.ry, h.2.1.ly, h.2.1.cy, h.2.1.ny⟩, h.2.2.set hp hv⟩
end Go.Proofs.Ytllpllebmknmpaa

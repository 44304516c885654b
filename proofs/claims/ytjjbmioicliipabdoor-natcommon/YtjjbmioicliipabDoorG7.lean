/-
  Walks of package nat's greatest common divisor: gcd, Gcd.
-/
import Derived.Test.YtjjbmioicliipabDoorG6
namespace Go.Proofs.YtjjbmioicliipabDoor
open Go.RowKit

theorem cd_gcd {u v A B : Int} (h : Cd u v A B) (u0 : 0 ≤ u) (v0 : 0 ≤ v) (A0 : 0 ≤ A) (B0 : 0 ≤ B) : Nat.gcd u.toNat v.toNat = Nat.gcd A.toNat B.toNat := by
  have key : ∀ {p q r s : Int}, Cd p q r s → 0 ≤ p → 0 ≤ q → 0 ≤ r → 0 ≤ s → Nat.gcd p.toNat q.toNat ∣ Nat.gcd r.toNat s.toNat := by
    intro p q r s h p0 q0 r0 s0
    have h1 : ((Nat.gcd p.toNat q.toNat : Nat) : Int) ∣ p := by
      have := Int.natCast_dvd_natCast.2 (Nat.gcd_dvd_left p.toNat q.toNat)
      rwa [Int.toNat_of_nonneg p0] at this
    have h2 : ((Nat.gcd p.toNat q.toNat : Nat) : Int) ∣ q := by
      have := Int.natCast_dvd_natCast.2 (Nat.gcd_dvd_right p.toNat q.toNat)
      rwa [Int.toNat_of_nonneg q0] at this
    obtain ⟨h3, h4⟩ := (h _).1 ⟨h1, h2⟩
    refine Nat.dvd_gcd ?_ ?_
    · apply Int.natCast_dvd_natCast.1; rwa [Int.toNat_of_nonneg r0]
    · apply Int.natCast_dvd_natCast.1; rwa [Int.toNat_of_nonneg s0]
  exact Nat.dvd_antisymm (key h u0 v0 A0 B0) (key (fun d => (h d).symm) A0 B0 u0 v0)

set_option maxRecDepth 100000 in
set_option maxHeartbeats 8000000 in
theorem gcd_c (ao bo : Option Addr) (n m ca cb : Nat) (f h : Nat → Int) (w : World) (hn : n ≤ 8796093022207) (hm : m ≤ 8796093022207) (hr : Rd .u64 w ao n f) (hs : Rd .u64 w bo m h) (hf : Lm f n) (hh : Lm h m) (ff : Fm f n) (fh : Fm h m) :
    Calls Tryd.prog 17 #[.slice ao n ca, .slice bo m cb] w fun e w' => ∃ ao' k cap' f', e = .returned (.slice ao' k cap') ∧ Res (max n m + 1) w w' ao' k cap' f' ∧ vf f' k = (Nat.gcd (vf f n).toNat (vf h m).toNat : Nat) := by
  have CC := hid (cmp_c ao bo n m ca cb f h w (by omega) (by omega) hr hs hf hh ff fh)
  have HRa := hid hr; have HRb := hid hs; have HLa := hid hf; have HLb := hid hh; have HFa := hid ff; have HFb := hid fh
  clear hr hs hf hh ff fh
  by_cases hlt : vf f n < vf h m
  · skip
    have HLt := hid hlt
    clear hlt
    rcases (show n = 0 ∨ n = 1 ∨ 2 ≤ n by omega) with hb0 | hb1 | hb2
    · have hBz : vf f n = 0 := by rw [hb0]; rfl
      have HBz := hid hBz
      subst hb0
      clear hBz
      go_enter Tryd.func17, Tryd.ntmps17
      go_wp2_with fail
      refine CC.out.mono ?_
      rintro e w1 ⟨⟨q, rfl⟩, c, rfl, ho⟩
      have hc : c = -1 := by have := HLt.out; unfold Ord at ho; omega
      subst hc
      clear ho
      go_wp2_with fail
      refine (clone_c bo m cb h _ (by omega) (show Rd .u64 (w.drewN q) bo m h from HRb.out) HLb.out).mono ?_
      rintro e w9 ⟨xr, kr, cr, rfl, hres, hkr, hv⟩
      have HRS := hid hres; have HVr := hid hv
      clear hres hv
      go_wp2
      go_ret
      refine ⟨xr, kr, cr, h, rfl, (HRS.out.ahead (below_drewN (Below.refl w.heap.size w) q)).mono (by omega), ?_⟩
      rw [HVr.out, show vf h m = vf h m from rfl]
      rw [show vf f 0 = 0 from rfl]; rw [Nat.gcd_comm]; simp [Int.toNat_of_nonneg (vf_nonneg HLb.out)]
    · subst hb1
      obtain ⟨bb, ob, rfl⟩ := HRa.out.at (by omega)
      obtain ⟨x, hx⟩ : ∃ x, f 0 = x := ⟨_, rfl⟩
      have hcell : w.cell? ⟨bb, ob, none⟩ = some (.int .u64 x) := by rw [← hx]; exact HRa.out.cell (j := 0) (by omega)
      have hx01 := HLa.out 0 (by omega)
      have hx2 : x ≠ 0 := by rw [← hx]; rcases HFa.out with h | h; omega; exact h
      rw [hx] at hx01
      obtain ⟨xn, rfl⟩ := Int.eq_ofNat_of_zero_le hx01.1
      have HVB := hid (show vf f 1 = (xn : Int) by simp [vf, pw, hx])
      clear hx
      go_enter Tryd.func17, Tryd.ntmps17
      go_wp2_with fail
      refine CC.out.mono ?_
      rintro e w1 ⟨⟨q, rfl⟩, c, rfl, ho⟩
      have hc : c = -1 := by have := HLt.out; unfold Ord at ho; omega
      subst hc
      clear ho
      have hA0 := vf_nonneg HLb.out
      obtain ⟨R, hR⟩ : ∃ R : Nat, (vf h m % (xn : Int)) = R := ⟨(vf h m % (xn : Int)).toNat, by have := Int.emod_nonneg (vf h m) (show (xn : Int) ≠ 0 by omega); omega⟩
      have hR1 : (R : Int) < xn := by rw [← hR]; exact Int.emod_lt_of_pos _ (by omega)
      have cm := fun W hr' => modWord_c bo m cb h xn W (by omega) hr' HLb.out (by omega) (by omega)
      rw [hR] at cm
      have cg := fun W => gcdWord_c xn R W (by omega) (by omega)
      have hgl : Nat.gcd xn R < 18446744073709551616 := Nat.lt_of_le_of_lt (Nat.gcd_le_left _ (by omega)) (by omega)
      have hfin : Nat.gcd xn R = Nat.gcd (vf h m).toNat xn := by
        have e : R = (vf h m).toNat % xn := by
          have : ((vf h m).toNat : Int) = vf h m := Int.toNat_of_nonneg hA0
          have h2 : (((vf h m).toNat % xn : Nat) : Int) = vf h m % (xn : Int) := by rw [Int.natCast_emod, this]
          omega
        rw [e, Nat.gcd_comm (vf h m).toNat xn, Nat.gcd_rec xn (vf h m).toNat, Nat.gcd_comm]
      generalize Nat.gcd xn R = G at *
      have CM := hid cm; have CG := hid cg; have HFin := hid hfin; have HRd := hid (show Rd .u64 (w.drewN q) bo m h from HRb.out)
      clear cm cg hfin hR hA0
      go_wp2
      go_region_with (first | (go_at_call 30; refine (CM.out _ (by exact HRd.out)).mono ?_; rintro e w' ⟨rfl, q1, rfl⟩) | (go_at_call 29; refine (CG.out _).mono ?_; rintro e w' ⟨rfl, q2, rfl⟩) | (go_at_call 28; refine (fromWord_c G _ (by omega) (by omega)).mono ?_; rintro e w' ⟨xr, kr, cr, fr, rfl, hres, hv'⟩))
      all_goals
        go_wp2
        go_ret
        refine ⟨xr, kr, cr, fr, rfl, (hres.ahead (by repeat (first | exact (below_drewN (Below.refl w.heap.size w) q) | exact Below.refl _ _ | refine below_drewN ?_ _ | refine Below.drew ?_))).mono (by omega), ?_⟩
        rw [hv', HFin.out, HVB.out]
        rw [Int.toNat_natCast, Nat.gcd_comm]
    · have CA := hid (fun W (hW : Rd .u64 W bo m h) => clone_c bo m cb h W (by omega) hW HLb.out)
      have CB := hid (fun W (hW : Rd .u64 W ao n f) => clone_c ao n ca f W (by omega) hW HLa.out)
      have d1 : decide ((1 : Int) < (n : Int)) = true := by simp; omega
      go_enter Tryd.func17, Tryd.ntmps17
      go_wp2_with fail
      refine CC.out.mono ?_
      rintro e w1 ⟨⟨q, rfl⟩, c, rfl, ho⟩
      have hc : c = -1 := by have := HLt.out; unfold Ord at ho; omega
      subst hc
      clear ho
      go_wp2_with fail
      refine (CA.out _ (by exact HRb.out)).mono ?_
      rintro e w2 ⟨xa', ka, ca', rfl, hresa, hka, hva⟩
      have hRb2 := HRa.out.below (show Below w.heap.size w w2 from ⟨hresa.bel.os, hresa.bel.tape, hresa.bel.output, hresa.bel.size, hresa.bel.block⟩) (Nat.le_refl _)
      have RESA := hid hresa; have HVa := hid hva; have HRb2 := hid hRb2
      clear hresa hva hRb2 CA
      go_wp2_with fail
      refine (CB.out _ HRb2.out).mono ?_
      rintro e w3 ⟨xb', kb, cb', rfl, hresb, hkb, hvb⟩
      have hTwo : Two w.heap.size w3 xa' ka ca' xb' kb cb' (vf h m) (vf f n) := by
        have hz : w.heap.size ≤ w2.heap.size := RESA.out.bel.size
        have hBp : 0 < vf f n := by have := vf_form_ge HLa.out HFa.out (by omega); have := pw_pos (n - 1); omega
        have hle : vf f n ≤ vf h m := by have := HLt.out; omega
        rcases RESA.out.own with ⟨_, h0, _⟩ | ⟨ga, e1, e2, e3, e4, e5, e6⟩
        · have := HVa.out; rw [h0] at this; simp [vf] at this; omega
        · rcases hresb.own with ⟨_, h0, _⟩ | ⟨gb, f1, f2, f3, f4, f5, f6⟩
          · rw [h0] at hvb; simp [vf] at hvb; omega
          · refine ⟨ga, ⟨h, e1, e3, e4, by omega, by simpa using e2, e6.below hresb.bel e6.lt, RESA.out.lmc, RESA.out.fm, HVa.out⟩, by omega, hle, .inr ⟨gb, ?_, f, f1, f3, f4, by omega, by omega, f6, hresb.lmc, hresb.fm, hvb⟩⟩
            have := e6.lt; omega
      have hb3 : Below w.heap.size w w3 := (show Below w.heap.size w w2 from ⟨RESA.out.bel.os, RESA.out.bel.tape, RESA.out.bel.output, RESA.out.bel.size, RESA.out.bel.block⟩).trans (hresb.bel.mono RESA.out.bel.size)
      have CS := hid (shorten_c w.heap.size xa' xb' ka ca' kb cb' m (vf h m) (vf f n) w3 hTwo (vf_lt HLb.out) (by omega) hb3.size)
      have BE3 := hid hb3
      clear hTwo hb3 hresb hvb RESA HVa HRb2 CB d1
      go_wp2_with fail
      refine CS.out.mono ?_
      rintro e w4 ⟨y1, l1, d1, y2, l2, d2, A', B', rfl, hb4, hT, hC, hl2, hA'⟩
      obtain ⟨g1, ⟨P, rfl, o1, o2, o3, o4, hbP, lP, fP, vP⟩, B0, BA, h2⟩ := hT
      have BE4 := hid (BE3.out.trans hb4)
      have HCd := hid hC
      have hl1 : l1 ≤ m := by
        have := vf_lt HLb.out
        exact mid_len (lP.mono o2) fP (by rw [vP]; omega)
      have HP := hid (hbP.rd0 o2); have LP := hid (lP.mono o2); have VP := hid vP
      clear hb4 hC hbP lP fP vP CS
      have hgc : Hid (Nat.gcd A'.toNat B'.toNat = Nat.gcd (vf h m).toNat (vf f n).toNat) := cd_gcd HCd.out (by omega) B0 (vf_nonneg HLb.out) (vf_nonneg HLa.out)
      rcases h2 with ⟨rfl, rfl, rfl, rfl⟩ | ⟨g2, hne, Q, rfl, u1, u2, u3, u4, hbQ, lQ, fQ, vQ⟩
      · have hA0 : 0 ≤ A' := by omega
        clear B0 BA
        go_wp2_with fail
        refine (clone_c (some ⟨g1, 0, none⟩) l1 d1 P _ (by omega) HP.out LP.out).mono ?_
        rintro e w9 ⟨xr, kr, cr, rfl, hres, hkr, hv⟩
        have HRS := hid hres; have HVr := hid hv
        clear hres hv
        go_wp2
        go_ret
        refine ⟨xr, kr, cr, P, rfl, (HRS.out.ahead BE4.out).mono (by omega), ?_⟩
        rw [HVr.out, VP.out]
        rw [Nat.gcd_comm]; rw [← hgc.out]; simp [Int.toNat_of_nonneg hA0]
      · obtain rfl : l2 = 1 := by omega
        obtain ⟨x, hx⟩ : ∃ x, Q 0 = x := ⟨_, rfl⟩
        have hcell : w4.cell? ⟨g2, 0, none⟩ = some (.int .u64 x) := by rw [← hx]; exact hbQ.cell (j := 0) (by omega)
        have hx01 := lQ 0 (by omega)
        have hx2 : x ≠ 0 := by rw [← hx]; rcases fQ with h | h; omega; exact h
        rw [hx] at hx01
        obtain ⟨xn, rfl⟩ := Int.eq_ofNat_of_zero_le hx01.1
        have hvB : B' = (xn : Int) := by rw [← vQ]; simp [vf, pw, hx]
        subst hvB
        clear hx hbQ lQ fQ vQ B0 BA
        have hA0 := vf_nonneg LP.out
        obtain ⟨R, hR⟩ : ∃ R : Nat, (vf P l1 % (xn : Int)) = R := ⟨(vf P l1 % (xn : Int)).toNat, by have := Int.emod_nonneg (vf P l1) (show (xn : Int) ≠ 0 by omega); omega⟩
        have hR1 : (R : Int) < xn := by rw [← hR]; exact Int.emod_lt_of_pos _ (by omega)
        have cm := fun W hr' => modWord_c (some ⟨g1, 0, none⟩) l1 d1 P xn W (by omega) hr' LP.out (by omega) (by omega)
        rw [hR] at cm
        have cg := fun W => gcdWord_c xn R W (by omega) (by omega)
        have hgl : Nat.gcd xn R < 18446744073709551616 := Nat.lt_of_le_of_lt (Nat.gcd_le_left _ (by omega)) (by omega)
        have hfin : Nat.gcd xn R = Nat.gcd (vf P l1).toNat xn := by
          have e : R = (vf P l1).toNat % xn := by
            have : ((vf P l1).toNat : Int) = vf P l1 := Int.toNat_of_nonneg hA0
            have h2 : (((vf P l1).toNat % xn : Nat) : Int) = vf P l1 % (xn : Int) := by rw [Int.natCast_emod, this]
            omega
          rw [e, Nat.gcd_comm (vf P l1).toNat xn, Nat.gcd_rec xn (vf P l1).toNat, Nat.gcd_comm]
        generalize Nat.gcd xn R = G at *
        have CM := hid cm; have CG := hid cg; have HFin := hid hfin; have HRd := hid HP.out
        clear cm cg hfin hR hA0
        go_wp2
        go_region_with (first | (go_at_call 30; refine (CM.out _ (by exact HRd.out)).mono ?_; rintro e w' ⟨rfl, q1, rfl⟩) | (go_at_call 29; refine (CG.out _).mono ?_; rintro e w' ⟨rfl, q2, rfl⟩) | (go_at_call 28; refine (fromWord_c G _ (by omega) (by omega)).mono ?_; rintro e w' ⟨xr, kr, cr, fr, rfl, hres, hv'⟩))
        all_goals
          go_wp2
          go_ret
          refine ⟨xr, kr, cr, fr, rfl, (hres.ahead (by repeat (first | exact BE4.out | exact Below.refl _ _ | refine below_drewN ?_ _ | refine Below.drew ?_))).mono (by omega), ?_⟩
          rw [hv', HFin.out, VP.out]
          rw [Nat.gcd_comm (vf f n).toNat, ← hgc.out, Int.toNat_natCast]
  · skip
    have HLt := hid hlt
    clear hlt
    rcases (show m = 0 ∨ m = 1 ∨ 2 ≤ m by omega) with hb0 | hb1 | hb2
    · have hBz : vf h m = 0 := by rw [hb0]; rfl
      have HBz := hid hBz
      subst hb0
      clear hBz
      go_enter Tryd.func17, Tryd.ntmps17
      go_wp2_with fail
      refine CC.out.mono ?_
      rintro e w1 ⟨⟨q, rfl⟩, c, rfl, ho⟩
      have hc : 0 ≤ c := by have := HLt.out; unfold Ord at ho; omega
      clear ho
      go_wp2_with fail
      refine (clone_c ao n ca f _ (by omega) (show Rd .u64 (w.drewN q) ao n f from HRa.out) HLa.out).mono ?_
      rintro e w9 ⟨xr, kr, cr, rfl, hres, hkr, hv⟩
      have HRS := hid hres; have HVr := hid hv
      clear hres hv
      go_wp2
      go_ret
      refine ⟨xr, kr, cr, f, rfl, (HRS.out.ahead (below_drewN (Below.refl w.heap.size w) q)).mono (by omega), ?_⟩
      rw [HVr.out, show vf f n = vf f n from rfl]
      rw [show vf h 0 = 0 from rfl]; simp [Int.toNat_of_nonneg (vf_nonneg HLa.out)]
    · subst hb1
      obtain ⟨bb, ob, rfl⟩ := HRb.out.at (by omega)
      obtain ⟨x, hx⟩ : ∃ x, h 0 = x := ⟨_, rfl⟩
      have hcell : w.cell? ⟨bb, ob, none⟩ = some (.int .u64 x) := by rw [← hx]; exact HRb.out.cell (j := 0) (by omega)
      have hx01 := HLb.out 0 (by omega)
      have hx2 : x ≠ 0 := by rw [← hx]; rcases HFb.out with h | h; omega; exact h
      rw [hx] at hx01
      obtain ⟨xn, rfl⟩ := Int.eq_ofNat_of_zero_le hx01.1
      have HVB := hid (show vf h 1 = (xn : Int) by simp [vf, pw, hx])
      clear hx
      go_enter Tryd.func17, Tryd.ntmps17
      go_wp2_with fail
      refine CC.out.mono ?_
      rintro e w1 ⟨⟨q, rfl⟩, c, rfl, ho⟩
      have hc : 0 ≤ c := by have := HLt.out; unfold Ord at ho; omega
      clear ho
      have hA0 := vf_nonneg HLa.out
      obtain ⟨R, hR⟩ : ∃ R : Nat, (vf f n % (xn : Int)) = R := ⟨(vf f n % (xn : Int)).toNat, by have := Int.emod_nonneg (vf f n) (show (xn : Int) ≠ 0 by omega); omega⟩
      have hR1 : (R : Int) < xn := by rw [← hR]; exact Int.emod_lt_of_pos _ (by omega)
      have cm := fun W hr' => modWord_c ao n ca f xn W (by omega) hr' HLa.out (by omega) (by omega)
      rw [hR] at cm
      have cg := fun W => gcdWord_c xn R W (by omega) (by omega)
      have hgl : Nat.gcd xn R < 18446744073709551616 := Nat.lt_of_le_of_lt (Nat.gcd_le_left _ (by omega)) (by omega)
      have hfin : Nat.gcd xn R = Nat.gcd (vf f n).toNat xn := by
        have e : R = (vf f n).toNat % xn := by
          have : ((vf f n).toNat : Int) = vf f n := Int.toNat_of_nonneg hA0
          have h2 : (((vf f n).toNat % xn : Nat) : Int) = vf f n % (xn : Int) := by rw [Int.natCast_emod, this]
          omega
        rw [e, Nat.gcd_comm (vf f n).toNat xn, Nat.gcd_rec xn (vf f n).toNat, Nat.gcd_comm]
      generalize Nat.gcd xn R = G at *
      have CM := hid cm; have CG := hid cg; have HFin := hid hfin; have HRd := hid (show Rd .u64 (w.drewN q) ao n f from HRa.out)
      clear cm cg hfin hR hA0
      go_wp2
      go_region_with (first | (go_at_call 30; refine (CM.out _ (by exact HRd.out)).mono ?_; rintro e w' ⟨rfl, q1, rfl⟩) | (go_at_call 29; refine (CG.out _).mono ?_; rintro e w' ⟨rfl, q2, rfl⟩) | (go_at_call 28; refine (fromWord_c G _ (by omega) (by omega)).mono ?_; rintro e w' ⟨xr, kr, cr, fr, rfl, hres, hv'⟩))
      all_goals
        go_wp2
        go_ret
        refine ⟨xr, kr, cr, fr, rfl, (hres.ahead (by repeat (first | exact (below_drewN (Below.refl w.heap.size w) q) | exact Below.refl _ _ | refine below_drewN ?_ _ | refine Below.drew ?_))).mono (by omega), ?_⟩
        rw [hv', HFin.out, HVB.out]
        rw [Int.toNat_natCast]
    · have CA := hid (fun W (hW : Rd .u64 W ao n f) => clone_c ao n ca f W (by omega) hW HLa.out)
      have CB := hid (fun W (hW : Rd .u64 W bo m h) => clone_c bo m cb h W (by omega) hW HLb.out)
      have d1 : decide ((1 : Int) < (m : Int)) = true := by simp; omega
      go_enter Tryd.func17, Tryd.ntmps17
      go_wp2_with fail
      refine CC.out.mono ?_
      rintro e w1 ⟨⟨q, rfl⟩, c, rfl, ho⟩
      have hc : 0 ≤ c := by have := HLt.out; unfold Ord at ho; omega
      clear ho
      go_wp2_with fail
      refine (CA.out _ (by exact HRa.out)).mono ?_
      rintro e w2 ⟨xa', ka, ca', rfl, hresa, hka, hva⟩
      have hRb2 := HRb.out.below (show Below w.heap.size w w2 from ⟨hresa.bel.os, hresa.bel.tape, hresa.bel.output, hresa.bel.size, hresa.bel.block⟩) (Nat.le_refl _)
      have RESA := hid hresa; have HVa := hid hva; have HRb2 := hid hRb2
      clear hresa hva hRb2 CA
      go_wp2_with fail
      refine (CB.out _ HRb2.out).mono ?_
      rintro e w3 ⟨xb', kb, cb', rfl, hresb, hkb, hvb⟩
      have hTwo : Two w.heap.size w3 xa' ka ca' xb' kb cb' (vf f n) (vf h m) := by
        have hz : w.heap.size ≤ w2.heap.size := RESA.out.bel.size
        have hBp : 0 < vf h m := by have := vf_form_ge HLb.out HFb.out (by omega); have := pw_pos (m - 1); omega
        have hle : vf h m ≤ vf f n := by have := HLt.out; omega
        rcases RESA.out.own with ⟨_, h0, _⟩ | ⟨ga, e1, e2, e3, e4, e5, e6⟩
        · have := HVa.out; rw [h0] at this; simp [vf] at this; omega
        · rcases hresb.own with ⟨_, h0, _⟩ | ⟨gb, f1, f2, f3, f4, f5, f6⟩
          · rw [h0] at hvb; simp [vf] at hvb; omega
          · refine ⟨ga, ⟨f, e1, e3, e4, by omega, by simpa using e2, e6.below hresb.bel e6.lt, RESA.out.lmc, RESA.out.fm, HVa.out⟩, by omega, hle, .inr ⟨gb, ?_, h, f1, f3, f4, by omega, by omega, f6, hresb.lmc, hresb.fm, hvb⟩⟩
            have := e6.lt; omega
      have hb3 : Below w.heap.size w w3 := (show Below w.heap.size w w2 from ⟨RESA.out.bel.os, RESA.out.bel.tape, RESA.out.bel.output, RESA.out.bel.size, RESA.out.bel.block⟩).trans (hresb.bel.mono RESA.out.bel.size)
      have CS := hid (shorten_c w.heap.size xa' xb' ka ca' kb cb' n (vf f n) (vf h m) w3 hTwo (vf_lt HLa.out) (by omega) hb3.size)
      have BE3 := hid hb3
      clear hTwo hb3 hresb hvb RESA HVa HRb2 CB d1
      go_wp2_with fail
      refine CS.out.mono ?_
      rintro e w4 ⟨y1, l1, d1, y2, l2, d2, A', B', rfl, hb4, hT, hC, hl2, hA'⟩
      obtain ⟨g1, ⟨P, rfl, o1, o2, o3, o4, hbP, lP, fP, vP⟩, B0, BA, h2⟩ := hT
      have BE4 := hid (BE3.out.trans hb4)
      have HCd := hid hC
      have hl1 : l1 ≤ n := by
        have := vf_lt HLa.out
        exact mid_len (lP.mono o2) fP (by rw [vP]; omega)
      have HP := hid (hbP.rd0 o2); have LP := hid (lP.mono o2); have VP := hid vP
      clear hb4 hC hbP lP fP vP CS
      have hgc : Hid (Nat.gcd A'.toNat B'.toNat = Nat.gcd (vf f n).toNat (vf h m).toNat) := cd_gcd HCd.out (by omega) B0 (vf_nonneg HLa.out) (vf_nonneg HLb.out)
      rcases h2 with ⟨rfl, rfl, rfl, rfl⟩ | ⟨g2, hne, Q, rfl, u1, u2, u3, u4, hbQ, lQ, fQ, vQ⟩
      · have hA0 : 0 ≤ A' := by omega
        clear B0 BA
        go_wp2_with fail
        refine (clone_c (some ⟨g1, 0, none⟩) l1 d1 P _ (by omega) HP.out LP.out).mono ?_
        rintro e w9 ⟨xr, kr, cr, rfl, hres, hkr, hv⟩
        have HRS := hid hres; have HVr := hid hv
        clear hres hv
        go_wp2
        go_ret
        refine ⟨xr, kr, cr, P, rfl, (HRS.out.ahead BE4.out).mono (by omega), ?_⟩
        rw [HVr.out, VP.out]
        rw [← hgc.out]; simp [Int.toNat_of_nonneg hA0]
      · obtain rfl : l2 = 1 := by omega
        obtain ⟨x, hx⟩ : ∃ x, Q 0 = x := ⟨_, rfl⟩
        have hcell : w4.cell? ⟨g2, 0, none⟩ = some (.int .u64 x) := by rw [← hx]; exact hbQ.cell (j := 0) (by omega)
        have hx01 := lQ 0 (by omega)
        have hx2 : x ≠ 0 := by rw [← hx]; rcases fQ with h | h; omega; exact h
        rw [hx] at hx01
        obtain ⟨xn, rfl⟩ := Int.eq_ofNat_of_zero_le hx01.1
        have hvB : B' = (xn : Int) := by rw [← vQ]; simp [vf, pw, hx]
        subst hvB
        clear hx hbQ lQ fQ vQ B0 BA
        have hA0 := vf_nonneg LP.out
        obtain ⟨R, hR⟩ : ∃ R : Nat, (vf P l1 % (xn : Int)) = R := ⟨(vf P l1 % (xn : Int)).toNat, by have := Int.emod_nonneg (vf P l1) (show (xn : Int) ≠ 0 by omega); omega⟩
        have hR1 : (R : Int) < xn := by rw [← hR]; exact Int.emod_lt_of_pos _ (by omega)
        have cm := fun W hr' => modWord_c (some ⟨g1, 0, none⟩) l1 d1 P xn W (by omega) hr' LP.out (by omega) (by omega)
        rw [hR] at cm
        have cg := fun W => gcdWord_c xn R W (by omega) (by omega)
        have hgl : Nat.gcd xn R < 18446744073709551616 := Nat.lt_of_le_of_lt (Nat.gcd_le_left _ (by omega)) (by omega)
        have hfin : Nat.gcd xn R = Nat.gcd (vf P l1).toNat xn := by
          have e : R = (vf P l1).toNat % xn := by
            have : ((vf P l1).toNat : Int) = vf P l1 := Int.toNat_of_nonneg hA0
            have h2 : (((vf P l1).toNat % xn : Nat) : Int) = vf P l1 % (xn : Int) := by rw [Int.natCast_emod, this]
            omega
          rw [e, Nat.gcd_comm (vf P l1).toNat xn, Nat.gcd_rec xn (vf P l1).toNat, Nat.gcd_comm]
        generalize Nat.gcd xn R = G at *
        have CM := hid cm; have CG := hid cg; have HFin := hid hfin; have HRd := hid HP.out
        clear cm cg hfin hR hA0
        go_wp2
        go_region_with (first | (go_at_call 30; refine (CM.out _ (by exact HRd.out)).mono ?_; rintro e w' ⟨rfl, q1, rfl⟩) | (go_at_call 29; refine (CG.out _).mono ?_; rintro e w' ⟨rfl, q2, rfl⟩) | (go_at_call 28; refine (fromWord_c G _ (by omega) (by omega)).mono ?_; rintro e w' ⟨xr, kr, cr, fr, rfl, hres, hv'⟩))
        all_goals
          go_wp2
          go_ret
          refine ⟨xr, kr, cr, fr, rfl, (hres.ahead (by repeat (first | exact BE4.out | exact Below.refl _ _ | refine below_drewN ?_ _ | refine Below.drew ?_))).mono (by omega), ?_⟩
          rw [hv', HFin.out, VP.out]
          rw [← hgc.out, Int.toNat_natCast]
end Go.Proofs.YtjjbmioicliipabDoor

/-
  The walk of the statement NatDivides.
-/
import Derived.Test.YtjjbmioicliipaaDoorA2
import Derived.Test.YtjjbmioicliipaaDoorE1
import Derived.Test.YtjjbmioicliipaaDoorR2
namespace Go.Proofs.YtjjbmioicliipaaDoor
open Go.RowKit

theorem own_cap {k e w base ao n cap f} (h : Own k e w base (.slice ao n cap) n f) : n ≤ cap ∧ cap ≤ 9223372036854775807 := by
  obtain ⟨ao', cap', hv, h1, _, h3, _⟩ := h.shape
  cases hv
  unfold maxLen at h3
  exact ⟨h1, by omega⟩

set_option maxRecDepth 100000 in
set_option maxHeartbeats 8000000 in
theorem natDivides_c (ao bo : Option Addr) (n m ca cb : Nat) (f h : Nat → Int) (w : World) (hn : n ≤ 9223372036854775807) (hm : m ≤ 9223372036854775807) (hr : Rd .u64 w ao n f) (hs : Rd .u64 w bo m h) (hf : Lm f n) (hh : Lm h m) (hna : ao = none → n = 0 ∧ ca = 0) (hnb : bo = none → m = 0 ∧ cb = 0) (htab : Tab w) :
    Calls Tryd.prog 7 #[.slice ao n ca, .slice bo m cb] w fun e w' => e = .returned (.bool true) ∧ Below w.heap.size w w' := by
  have HLa := hid hf; have HLb := hid hh
  have CW := hid (awake_c w htab)
  clear hf hh htab
  obtain ⟨bl, hbl⟩ : ∃ bl, decide (n ≤ 60 ∧ m ≤ 60) = bl := ⟨_, rfl⟩
  have C3 := hid (fun W => hbl ▸ light_c ao bo n m ca cb W)
  have HA0 := hid hr; have HB0 := hid hs
  clear hr hs
  cases bl
  · clear hbl
    go_enter Tryd.func7, Tryd.ntmps7
    go_wp2_with fail
    refine CW.out.mono ?_
    rintro e w1 ⟨rfl, hb1⟩
    go_wp2_with fail
    refine (C3.out _).mono ?_
    rintro e w2 ⟨rfl, rfl⟩
    go_wp2
    go_ret
    exact ⟨rfl, hb1⟩
  have hnm : n ≤ 60 ∧ m ≤ 60 := of_decide_eq_true hbl
  obtain ⟨hn60, hm60⟩ := hnm
  clear hbl
  obtain ⟨bf, hbf⟩ : ∃ bf, fmB f n = bf := ⟨_, rfl⟩
  have C1 := hid (fun W hr' => hbf ▸ form_c ao n ca f W (by omega) hr')
  obtain ⟨bg, hbg⟩ : ∃ bg, fmB h m = bg := ⟨_, rfl⟩
  have C2 := hid (fun W hr' => hbg ▸ form_c bo m cb h W (by omega) hr')
  cases bf
  · have NA := hid (nfm_of hbf)
    clear hbf hbg
    go_enter Tryd.func7, Tryd.ntmps7
    go_wp2_with fail
    refine CW.out.mono ?_
    rintro e w1 ⟨rfl, hb1⟩
    have HA := hid (HA0.out.below hb1 (Nat.le_refl _)); have HB := hid (HB0.out.below hb1 (Nat.le_refl _)); have BW := hid hb1
    clear hb1
    go_wp2_with fail
    refine (C3.out _).mono ?_
    rintro e w2 ⟨rfl, rfl⟩
    go_wp2_with fail
    refine (twin_c ao n ca f _ (by omega) HA.out hna).mono ?_
    rintro e wx1 ⟨ta, tca, rfl, hbX, hrtX, _⟩
    have HA2 := hid (HA.out.below hbX (Nat.le_refl _)); have HB2 := hid (HB.out.below hbX (Nat.le_refl _)); have BW2 := hid (BW.out.trans (hbX.mono BW.out.size)); have TA := hid hrtX
    clear HA HB BW hbX hrtX
    go_wp2_with fail
    refine (twin_c bo m cb h _ (by omega) HB2.out hnb).mono ?_
    rintro e wy1 ⟨tb, tcb, rfl, hbY, hrtY, _⟩
    have HA := hid (HA2.out.below hbY (Nat.le_refl _)); have HB := hid (HB2.out.below hbY (Nat.le_refl _)); have BW := hid (BW2.out.trans (hbY.mono BW2.out.size)); have TA2 := hid (TA.out.below hbY (Nat.le_refl _)); have TB := hid hrtY
    clear HA2 HB2 BW2 hbY hrtY TA
    go_wp2_with fail
    refine (DivMod_c ta tb n m tca tcb f h _ (by omega) (by omega) TA2.out TB.out HLa.out HLb.out).mono ?_
    rintro e wz1 ⟨x1, k1, d1, q, x2, k2, d2, r, er, rfl, hres1, hres2, hc1⟩
    have hbz := hres1.bel
    have HA2 := hid (HA.out.below hbz (Nat.le_refl _)); have HB2 := hid (HB.out.below hbz (Nat.le_refl _)); have BW2 := hid (BW.out.trans (hbz.mono BW.out.size))
    clear HA HB BW hbz TA2 TB
    obtain rfl : er = 3 := by rcases hc1 with h | h | h; exact absurd h.1 NA.out; exact absurd h.1 NA.out; exact h.2.1
    clear hc1 hres1 hres2
    go_wp2_with fail
    refine (C1.out _ HA2.out).mono ?_
    rintro e w2 ⟨rfl, rfl⟩
    go_wp2
    go_ret
    exact ⟨rfl, BW2.out⟩
  cases bg
  · have NB := hid (nfm_of hbg)
    clear hbf hbg
    go_enter Tryd.func7, Tryd.ntmps7
    go_wp2_with fail
    refine CW.out.mono ?_
    rintro e w1 ⟨rfl, hb1⟩
    have HA := hid (HA0.out.below hb1 (Nat.le_refl _)); have HB := hid (HB0.out.below hb1 (Nat.le_refl _)); have BW := hid hb1
    clear hb1
    go_wp2_with fail
    refine (C3.out _).mono ?_
    rintro e w2 ⟨rfl, rfl⟩
    go_wp2_with fail
    refine (twin_c ao n ca f _ (by omega) HA.out hna).mono ?_
    rintro e wx1 ⟨ta, tca, rfl, hbX, hrtX, _⟩
    have HA2 := hid (HA.out.below hbX (Nat.le_refl _)); have HB2 := hid (HB.out.below hbX (Nat.le_refl _)); have BW2 := hid (BW.out.trans (hbX.mono BW.out.size)); have TA := hid hrtX
    clear HA HB BW hbX hrtX
    go_wp2_with fail
    refine (twin_c bo m cb h _ (by omega) HB2.out hnb).mono ?_
    rintro e wy1 ⟨tb, tcb, rfl, hbY, hrtY, _⟩
    have HA := hid (HA2.out.below hbY (Nat.le_refl _)); have HB := hid (HB2.out.below hbY (Nat.le_refl _)); have BW := hid (BW2.out.trans (hbY.mono BW2.out.size)); have TA2 := hid (TA.out.below hbY (Nat.le_refl _)); have TB := hid hrtY
    clear HA2 HB2 BW2 hbY hrtY TA
    go_wp2_with fail
    refine (DivMod_c ta tb n m tca tcb f h _ (by omega) (by omega) TA2.out TB.out HLa.out HLb.out).mono ?_
    rintro e wz1 ⟨x1, k1, d1, q, x2, k2, d2, r, er, rfl, hres1, hres2, hc1⟩
    have hbz := hres1.bel
    have HA2 := hid (HA.out.below hbz (Nat.le_refl _)); have HB2 := hid (HB.out.below hbz (Nat.le_refl _)); have BW2 := hid (BW.out.trans (hbz.mono BW.out.size))
    clear HA HB BW hbz TA2 TB
    obtain rfl : er = 3 := by rcases hc1 with h | h | h; exact absurd h.2.1 NB.out; exact absurd h.2.1 NB.out; exact h.2.1
    clear hc1 hres1 hres2
    go_wp2_with fail
    refine (C1.out _ HA2.out).mono ?_
    rintro e w2 ⟨rfl, rfl⟩
    go_wp2_with fail
    refine (C2.out _ HB2.out).mono ?_
    rintro e w2 ⟨rfl, rfl⟩
    go_wp2
    go_ret
    exact ⟨rfl, BW2.out⟩
  have FA := hid (fm_of hbf); have FB := hid (fm_of hbg)
  clear hbf hbg
  by_cases hm0 : m = 0
  · have hmi : ((m : Int) == 0) = true := by simp [hm0]
    have HM0 := hid hm0
    clear hm0
    go_enter Tryd.func7, Tryd.ntmps7
    go_wp2_with fail
    refine CW.out.mono ?_
    rintro e w1 ⟨rfl, hb1⟩
    have HA := hid (HA0.out.below hb1 (Nat.le_refl _)); have HB := hid (HB0.out.below hb1 (Nat.le_refl _)); have BW := hid hb1
    clear hb1
    go_wp2_with fail
    refine (C3.out _).mono ?_
    rintro e w2 ⟨rfl, rfl⟩
    go_wp2_with fail
    refine (twin_c ao n ca f _ (by omega) HA.out hna).mono ?_
    rintro e wx1 ⟨ta, tca, rfl, hbX, hrtX, _⟩
    have HA2 := hid (HA.out.below hbX (Nat.le_refl _)); have HB2 := hid (HB.out.below hbX (Nat.le_refl _)); have BW2 := hid (BW.out.trans (hbX.mono BW.out.size)); have TA := hid hrtX
    clear HA HB BW hbX hrtX
    go_wp2_with fail
    refine (twin_c bo m cb h _ (by omega) HB2.out hnb).mono ?_
    rintro e wy1 ⟨tb, tcb, rfl, hbY, hrtY, _⟩
    have HA := hid (HA2.out.below hbY (Nat.le_refl _)); have HB := hid (HB2.out.below hbY (Nat.le_refl _)); have BW := hid (BW2.out.trans (hbY.mono BW2.out.size)); have TA2 := hid (TA.out.below hbY (Nat.le_refl _)); have TB := hid hrtY
    clear HA2 HB2 BW2 hbY hrtY TA
    go_wp2_with fail
    refine (DivMod_c ta tb n m tca tcb f h _ (by omega) (by omega) TA2.out TB.out HLa.out HLb.out).mono ?_
    rintro e wz1 ⟨x1, k1, d1, q, x2, k2, d2, r, er, rfl, hres1, hres2, hc1⟩
    have hbz := hres1.bel
    have HA2 := hid (HA.out.below hbz (Nat.le_refl _)); have HB2 := hid (HB.out.below hbz (Nat.le_refl _)); have BW2 := hid (BW.out.trans (hbz.mono BW.out.size))
    clear HA HB BW hbz TA2 TB
    obtain rfl : er = 4 := by rcases hc1 with h | h | h; (have := h.2.2.1; have := HM0.out; omega); exact h.2.2.2.1; exact absurd ⟨FA.out, FB.out⟩ h.1
    clear hc1 hres1 hres2
    go_wp2_with fail
    refine (C1.out _ HA2.out).mono ?_
    rintro e w2 ⟨rfl, rfl⟩
    go_wp2_with fail
    refine (C2.out _ HB2.out).mono ?_
    rintro e w2 ⟨rfl, rfl⟩
    go_wp2
    go_ret
    exact ⟨rfl, BW2.out⟩
  · skip
    go_enter Tryd.func7, Tryd.ntmps7
    go_wp2_with fail
    refine CW.out.mono ?_
    rintro e w1 ⟨rfl, hb1⟩
    have HA := hid (HA0.out.below hb1 (Nat.le_refl _)); have HB := hid (HB0.out.below hb1 (Nat.le_refl _)); have BW := hid hb1
    clear hb1
    go_wp2_with fail
    refine (C3.out _).mono ?_
    rintro e w2 ⟨rfl, rfl⟩
    go_wp2_with fail
    refine (twin_c ao n ca f _ (by omega) HA.out hna).mono ?_
    rintro e wx1 ⟨ta, tca, rfl, hbX, hrtX, _⟩
    have HA2 := hid (HA.out.below hbX (Nat.le_refl _)); have HB2 := hid (HB.out.below hbX (Nat.le_refl _)); have BW2 := hid (BW.out.trans (hbX.mono BW.out.size)); have TA := hid hrtX
    clear HA HB BW hbX hrtX
    go_wp2_with fail
    refine (twin_c bo m cb h _ (by omega) HB2.out hnb).mono ?_
    rintro e wy1 ⟨tb, tcb, rfl, hbY, hrtY, _⟩
    have HA := hid (HA2.out.below hbY (Nat.le_refl _)); have HB := hid (HB2.out.below hbY (Nat.le_refl _)); have BW := hid (BW2.out.trans (hbY.mono BW2.out.size)); have TA2 := hid (TA.out.below hbY (Nat.le_refl _)); have TB := hid hrtY
    clear HA2 HB2 BW2 hbY hrtY TA
    go_wp2_with fail
    refine (DivMod_c ta tb n m tca tcb f h _ (by omega) (by omega) TA2.out TB.out HLa.out HLb.out).mono ?_
    rintro e wz1 ⟨x1, k1, d1, q, x2, k2, d2, r, er, rfl, hres1, hres2, hc1⟩
    have hbz := hres1.bel
    have HA2 := hid (HA.out.below hbz (Nat.le_refl _)); have HB2 := hid (HB.out.below hbz (Nat.le_refl _)); have BW2 := hid (BW.out.trans (hbz.mono BW.out.size))
    clear HA HB BW hbz TA2 TB
    obtain ⟨rfl, hval, hr0, hr1⟩ : er = 0 ∧ vf f n = vf q k1 * vf h m + vf r k2 ∧ 0 ≤ vf r k2 ∧ vf r k2 < vf h m := by
      rcases hc1 with h | h | h
      · exact ⟨h.2.2.2.1, h.2.2.2.2⟩
      · omega
      · exact absurd ⟨FA.out, FB.out⟩ h.1
    have hk1 : k1 ≤ 60 := by have := hres1.le; omega
    have hk2 : k2 ≤ 61 := by have := hres2.le; omega
    have hnc1 := hres1.ncap
    have HVal := hid hval; have HR1 := hid hr1; have RQ := hid hres1.rd; have RR := hid hres2.rd; have LQ := hid hres1.lm; have LR := hid hres2.lm; have FQ := hid hres1.fm; have FR := hid hres2.fm
    clear hc1 hres1 hres2 hval hr0 hr1
    go_wp2_with fail
    refine (twin_c bo m cb h _ (by omega) HB2.out hnb).mono ?_
    rintro e wy2 ⟨tb, tcb, rfl, hbY, hrtY, hown⟩
    obtain ⟨hcb1, hcb2⟩ := own_cap hown
    have HA := hid (HA2.out.below hbY (Nat.le_refl _)); have HB := hid (HB2.out.below hbY (Nat.le_refl _)); have BW := hid (BW2.out.trans (hbY.mono BW2.out.size)); have TB := hid hrtY; have RQ2 := hid (RQ.out.below hbY (Nat.le_refl _)); have RR2 := hid (RR.out.below hbY (Nat.le_refl _))
    clear HA2 HB2 BW2 hbY hrtY hown RQ RR
    go_wp2_with fail
    refine (Mul_c x1 tb k1 m d1 tcb q h _ (by omega) (by omega) hnc1.1 hcb1 (by omega) hcb2 RQ2.out TB.out LQ.out HLb.out).mono ?_
    rintro e wm1 ⟨x3, k3, d3, pq, er1, rfl, hres3, hc3⟩
    obtain ⟨rfl, hv3⟩ : er1 = 0 ∧ vf pq k3 = vf q k1 * vf h m := by
      rcases hc3 with h | h
      · exact ⟨h.2.2.1, h.2.2.2⟩
      · exact absurd ⟨FQ.out, FB.out⟩ h.1
    have hbz := hres3.bel
    have hk3 : k3 ≤ 120 := by have := hres3.le; omega
    have HA2 := hid (HA.out.below hbz (Nat.le_refl _)); have HB2 := hid (HB.out.below hbz (Nat.le_refl _)); have BW2 := hid (BW.out.trans (hbz.mono BW.out.size)); have RR := hid (RR2.out.below hbz (Nat.le_refl _)); have RP := hid hres3.rd; have LP := hid hres3.lm; have FP := hid hres3.fm; have HV3 := hid hv3
    clear HA HB BW hbz TB RQ2 RR2 hres3 hc3 hv3
    go_wp2_with fail
    refine (Add_c x3 x2 k3 k2 d3 d2 pq r _ (by omega) (by omega) RP.out RR.out LP.out LR.out).mono ?_
    rintro e wm2 ⟨x4, k4, d4, sq, er2, rfl, hres4, hc4⟩
    obtain ⟨rfl, hv4⟩ : er2 = 0 ∧ vf sq k4 = vf pq k3 + vf r k2 := by
      rcases hc4 with h | h
      · exact ⟨h.2.2.1, h.2.2.2⟩
      · exact absurd ⟨FP.out, FR.out⟩ h.1
    have hbz := hres4.bel
    have hk4 : k4 ≤ 121 := by have := hres4.le; omega
    have HA := hid (HA2.out.below hbz (Nat.le_refl _)); have HB := hid (HB2.out.below hbz (Nat.le_refl _)); have BW := hid (BW2.out.trans (hbz.mono BW2.out.size)); have RR2 := hid (RR.out.below hbz (Nat.le_refl _)); have RS := hid hres4.rd; have LS := hid hres4.lm; have FS := hid hres4.fm; have HV4 := hid hv4
    clear HA2 HB2 BW2 hbz RP RR hres4 hc4 hv4
    go_wp2_with fail
    refine (twin_c bo m cb h _ (by omega) HB.out hnb).mono ?_
    rintro e wy3 ⟨tb3, tcb3, rfl, hbY, hrtY, _⟩
    have HA2 := hid (HA.out.below hbY (Nat.le_refl _)); have BW2 := hid (BW.out.trans (hbY.mono BW.out.size)); have TB := hid hrtY; have RR := hid (RR2.out.below hbY (Nat.le_refl _)); have RS2 := hid (RS.out.below hbY (Nat.le_refl _))
    clear HA HB BW hbY hrtY RR2 RS
    go_wp2_with fail
    refine (Cmp_c x2 tb3 k2 m d2 tcb3 r h _ (by omega) (by omega) RR.out TB.out LR.out HLb.out).mono ?_
    rintro e wz3 ⟨⟨q3, hq3⟩, c, er3, rfl, hc5⟩
    obtain ⟨rfl, ho⟩ : er3 = 0 ∧ Ord c (vf r k2) (vf h m) := by
      rcases hc5 with h | h
      · exact ⟨h.2.2.1, h.2.2.2⟩
      · exact absurd ⟨FR.out, FB.out⟩ h.1
    obtain rfl : c = -1 := by have := HR1.out; unfold Ord at ho; omega
    have hbz : Below wy3.heap.size wy3 wz3 := by rw [hq3]; exact below_drewN (Below.refl _ _) _
    have HA := hid (HA2.out.below hbz (Nat.le_refl _)); have BW := hid (BW2.out.trans (hbz.mono BW2.out.size)); have RS := hid (RS2.out.below hbz (Nat.le_refl _))
    clear HA2 BW2 hbz TB RR RS2 hc5 hq3 ho
    go_wp2_with fail
    refine (same_true x4 ao k4 n d4 ca sq f _ (by omega) (by omega) RS.out HA.out LS.out HLa.out FS.out FA.out (by rw [HV4.out, HV3.out, HVal.out])).mono ?_
    rintro e ws1 ⟨rfl, q1, hq⟩
    subst hq
    go_wp2
    go_ret
    exact ⟨rfl, below_drewN BW.out q1⟩
end Go.Proofs.YtjjbmioicliipaaDoor

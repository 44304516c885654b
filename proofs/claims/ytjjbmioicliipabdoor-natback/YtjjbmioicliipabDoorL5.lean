/-
  The walk of the statement NatBack.
-/
import Derived.Test.YtjjbmioicliipabDoorA2
import Derived.Test.YtjjbmioicliipabDoorY4
import Derived.Test.YtjjbmioicliipabDoorB1
namespace Go.Proofs.YtjjbmioicliipabDoor
open Go.RowKit

theorem own_tg {w base ao n cap f} (h : Own .u64 32 w base (.slice ao n cap) n f) : Tg w ao := fun a ha => by
  subst ha
  obtain ⟨cur, fr, e⟩ := own_tag (show w.ownsRow base 32 1 (.slice (some a) n cap) n _ from h) a.block rfl
  exact ⟨cur, fr, e⟩
theorem own_caps {k e w base ao n cap f} (h : Own k e w base (.slice ao n cap) n f) : n ≤ cap ∧ cap ≤ 9223372036854775807 := by
  obtain ⟨ao', cap', hv, h1, _, h3, _⟩ := h.shape
  cases hv
  unfold maxLen at h3
  exact ⟨h1, by omega⟩
theorem Res.tg {C w w' ao n cap f} (h : Res C w w' ao n cap f) : Tg w' ao := fun a ha => by
  rcases h.own with ⟨rfl, _⟩ | ⟨g, rfl, _, _, _, _, hb⟩
  · cases ha
  · cases ha
    obtain ⟨arr, e, _⟩ := hb
    exact ⟨arr, _, e⟩
theorem ten_pw (L : Nat) : ((10 ^ L : Nat) : Int) ≤ pw L := by
  induction L with
  | zero => simp [pw]
  | succ L ih => rw [pw_succ, Nat.pow_succ]; have := pw_pos L; omega

set_option maxRecDepth 100000 in
set_option maxHeartbeats 8000000 in
theorem natBack_c (ao bo : Option Addr) (n m ca cb : Nat) (f h : Nat → Int) (s : ByteArray) (w : World) (hn : n ≤ 9223372036854775807) (hm : m ≤ 9223372036854775807) (hr : Rd .u64 w ao n f) (hs : Rd .u64 w bo m h) (hf : Lm f n) (hh : Lm h m) (hna : ao = none → n = 0 ∧ ca = 0) (hnb : bo = none → m = 0 ∧ cb = 0) (hss : s.size ≤ 9223372036854775807) (htab : Tab w) :
    Calls Tryd.prog 4 #[.slice ao n ca, .slice bo m cb, .string s] w fun e w' => e = .returned (.bool true) ∧ Below w.heap.size w w' := by
  have HLa := hid hf; have HLb := hid hh
  have CW := hid (awake_c w htab)
  have HT0 := hid htab
  obtain ⟨bl, hbl⟩ : ∃ bl, decide (n ≤ 60 ∧ m ≤ 60) = bl := ⟨_, rfl⟩
  have C3 := hid (fun W => hbl ▸ light_c ao bo n m ca cb W)
  have HA0 := hid hr; have HB0 := hid hs
  have HSb := hid (show Sb s s.size (fun k => if h : k < s.size then (s[k]'h).toNat else 0) from ⟨rfl, fun k h => by simp [h]⟩)
  clear hf hh htab hr hs
  generalize (fun k => if h : k < s.size then (s[k]'h).toNat else 0) = b at HSb
  cases bl
  · clear hbl
    go_enter Tryd.func4, Tryd.ntmps4
    go_wp2_with fail
    refine CW.out.mono ?_
    rintro e w1 ⟨rfl, hb1⟩
    go_wp2_with fail
    refine (C3.out _).mono ?_
    rintro e w2 ⟨rfl, rfl⟩
    go_wp2
    go_ret
    exact ⟨rfl, hb1⟩
  have hnm : n ≤ 60 ∧ m ≤ 60 := of_decide_eq_true hbl
  obtain ⟨hn60, hm60⟩ := hnm
  clear hbl
  by_cases h3 : 3000 < s.size
  · have d2 : decide ((3000 : Int) < (s.size : Int)) = true := by simp; omega
    go_enter Tryd.func4, Tryd.ntmps4
    go_wp2_with fail
    refine CW.out.mono ?_
    rintro e w1 ⟨rfl, hb1⟩
    go_wp2_with fail
    refine (C3.out _).mono ?_
    rintro e w2 ⟨rfl, rfl⟩
    go_wp2
    go_ret
    exact ⟨rfl, hb1⟩
  have d2 : decide ((3000 : Int) < (s.size : Int)) = false := by simp; omega
  go_enter Tryd.func4, Tryd.ntmps4
  go_wp2_with fail
  refine CW.out.mono ?_
  rintro e w1 ⟨rfl, hb1⟩
  have HA := hid (HA0.out.below hb1 (Nat.le_refl _)); have HB := hid (HB0.out.below hb1 (Nat.le_refl _)); have BW := hid hb1; have HT := hid (HT0.out.below hb1 HT0.out.lt)
  clear HA0 HB0 hb1 CW HT0
  go_wp2_with fail
  refine (C3.out _).mono ?_
  rintro e w2 ⟨rfl, rfl⟩
  go_wp2_with fail
  refine (Read_c s s.size b _ HSb.out).mono ?_
  rintro e wr0 ⟨x0, k0, e0, g0, er0, rfl, hres0, hra0⟩
  have hbz := hres0.bel
  have HA2 := hid (HA.out.below hbz (Nat.le_refl _)); have HB2 := hid (HB.out.below hbz (Nat.le_refl _)); have BW2 := hid (BW.out.trans (hbz.mono BW.out.size)); have HT2 := hid (HT.out.below hbz HT.out.lt)
  clear HA HB BW HT hbz C3
  by_cases hnum : IsNum b s.size
  · obtain ⟨rfl, hval⟩ : er0 = 0 ∧ vf g0 k0 = ((dn b s.size : Nat) : Int) := by
      rcases hra0 with h | h | h
      · omega
      · exact absurd hnum h.2.1
      · exact ⟨h.2.2.1, h.2.2.2⟩
    have hk0 : k0 ≤ s.size := by
      refine mid_len hres0.lm hres0.fm ?_
      have h1 := dn_lt hnum.1
      have h2 := ten_pw s.size
      omega
    have hts : txt g0 k0 = s := by
      unfold txt
      rw [if_pos ((fmB_iff _ _).2 hres0.fm), hval, Int.toNat_natCast]
      exact (text_of_read HSb.out hnum).symm
    have hter : ter g0 k0 = 0 := by unfold ter; rw [if_pos ((fmB_iff _ _).2 hres0.fm)]
    have CT := hid (TextAll_c x0 k0 e0 g0 _ (by omega) hres0.rd hres0.tg hres0.lm HT2.out hres0.ncap.1 (by have := hres0.ncap; omega))
    rw [hts, hter] at CT
    have hT : (s.toList == s.toList) = true := by simp
    clear hres0 hra0 hval hts hter hnum
    go_wp2_with fail
    refine CT.out.mono ?_
    rintro e wq ⟨rfl, hbz⟩
    have HA := hid (HA2.out.below hbz (Nat.le_refl _)); have HB := hid (HB2.out.below hbz (Nat.le_refl _)); have BW := hid (BW2.out.trans (hbz.mono BW2.out.size)); have HT := hid (HT2.out.below hbz HT2.out.lt)
    clear HA2 HB2 BW2 HT2 hbz CT
    go_wp2_with fail
    refine (twin_c ao n ca f _ (by omega) HA.out hna).mono ?_
    rintro e wx1 ⟨ta, tca, rfl, hbX, hrtX, hown⟩
    obtain ⟨hc1, hc2⟩ := own_caps hown
    have HA2 := hid (HA.out.below hbX (Nat.le_refl _)); have HB2 := hid (HB.out.below hbX (Nat.le_refl _)); have BW2 := hid (BW.out.trans (hbX.mono BW.out.size)); have TA := hid hrtX; have HTg := hid (own_tg hown); have HT2 := hid (HT.out.below hbX HT.out.lt)
    clear HA HB BW hbX hrtX hown HT
    go_wp2_with fail
    refine (TextAll_c ta n tca f _ (by omega) TA.out HTg.out HLa.out HT2.out hc1 hc2).mono ?_
    rintro e wz1 ⟨rfl, hbz⟩
    have HA := hid (HA2.out.below hbz (Nat.le_refl _)); have HB := hid (HB2.out.below hbz (Nat.le_refl _)); have BW := hid (BW2.out.trans (hbz.mono BW2.out.size))
    clear HA2 HB2 BW2 hbz TA HTg HT2
    cases hfa : fmB f n
    · rw [show ter f n = 3 by simp [ter, hfa]]
      have C1 := hid (fun W hr' => hfa ▸ form_c ao n ca f W (by omega) hr')
      generalize txt f n = T at *
      clear hfa
      go_wp2_with fail
      refine (C1.out _ HA.out).mono ?_
      rintro e w2 ⟨rfl, rfl⟩
      go_wp2
      go_ret
      exact ⟨rfl, BW.out⟩
    have FA := hid (fm_of hfa)
    have hv0 := vf_nonneg HLa.out
    have hv1 := vf_lt HLa.out
    obtain ⟨V, hV⟩ : ∃ V, (vf f n).toNat = V := ⟨_, rfl⟩
    have hvV : vf f n = (V : Int) := by omega
    rw [show ter f n = 0 by simp [ter, hfa], show txt f n = ⟨(Lib.decDigits V).toArray⟩ by simp [txt, hfa, hV]]
    have hnd : Lib.nDigits V ≤ 1048576 := by
      have h1 : (V : Int) < pw n := by omega
      have h2 : pw n ≤ pw 60 := pw_mono (by omega)
      have h3 : pw 60 ≤ ((10 ^ 1200 : Nat) : Int) := by decide +kernel
      have : V < 10 ^ 1200 := by omega
      have := nDigits_le this (by omega)
      omega
    have CR := hid (fun W => Read_c ⟨(Lib.decDigits V).toArray⟩ (Lib.nDigits V) _ W (sb_dec V))
    have HvV := hid hvV; have HND := hid hnd
    generalize (ByteArray.mk (Lib.decDigits V).toArray) = T at *
    clear hfa hv0 hv1 hV hvV hnd
    go_wp2_with fail
    refine (CR.out _).mono ?_
    rintro e wr1 ⟨x1, k1, e1, g1, er1, rfl, hres, hra⟩
    obtain ⟨rfl, hval⟩ : er1 = 0 ∧ vf g1 k1 = (V : Int) := by
      rcases hra with h | h | h
      · have := HND.out; omega
      · exact absurd (isNum_dec V) h.2.1
      · exact ⟨h.2.2.1, by rw [h.2.2.2, dn_dec]⟩
    have hbz := hres.bel
    have hk1 : k1 ≤ 4294967296 := hres.le
    have HA2 := hid (HA.out.below hbz (Nat.le_refl _)); have HB2 := hid (HB.out.below hbz (Nat.le_refl _)); have BW2 := hid (BW.out.trans (hbz.mono BW.out.size)); have X1 := hid hres.rd; have X1l := hid hres.lm; have X1f := hid hres.fm; have HVal := hid (show vf g1 k1 = vf f n by rw [hval, HvV.out])
    clear HA HB BW hbz hres hra hval CR
    go_wp2_with fail
    refine (same_true x1 ao k1 n e1 ca g1 f _ (by omega) (by omega) X1.out HA2.out X1l.out HLa.out X1f.out FA.out HVal.out).mono ?_
    rintro e ws1 ⟨rfl, q1, hq⟩
    have hbz : Below wr1.heap.size wr1 ws1 := by rw [hq]; exact below_drewN (Below.refl _ _) _
    have HA := hid (HA2.out.below hbz (Nat.le_refl _)); have HB := hid (HB2.out.below hbz (Nat.le_refl _)); have BW := hid (BW2.out.trans (hbz.mono BW2.out.size)); have X2 := hid (X1.out.below hbz (Nat.le_refl _))
    clear HA2 HB2 BW2 hbz hq X1
    cases hfb : fmB h m
    · have C2 := hid (fun W hr' => hfb ▸ form_c bo m cb h W (by omega) hr')
      clear hfb
      go_wp2_with fail
      refine (C2.out _ HB.out).mono ?_
      rintro e w2 ⟨rfl, rfl⟩
      go_wp2_with fail
      refine (same_true x1 ao k1 n e1 ca g1 f _ (by omega) (by omega) X2.out HA.out X1l.out HLa.out X1f.out FA.out HVal.out).mono ?_
      rintro e ws2 ⟨rfl, q2, hq⟩
      subst hq
      go_wp2
      go_ret
      exact ⟨rfl, below_drewN BW.out q2⟩
    have C2 := hid (fun W hr' => hfb ▸ form_c bo m cb h W (by omega) hr')
    have FB := hid (fm_of hfb)
    clear hfb X2 HVal X1l X1f
    go_wp2_with fail
    refine (C2.out _ HB.out).mono ?_
    rintro e w2 ⟨rfl, rfl⟩
    go_wp2_with fail
    refine (twin_c ao n ca f _ (by omega) HA.out hna).mono ?_
    rintro e wt1 ⟨ta2, tca2, rfl, hbX, hrtX, _⟩
    have HA2 := hid (HA.out.below hbX (Nat.le_refl _)); have HB2 := hid (HB.out.below hbX (Nat.le_refl _)); have BW2 := hid (BW.out.trans (hbX.mono BW.out.size)); have TA := hid hrtX
    clear HA HB BW hbX hrtX
    go_wp2_with fail
    refine (twin_c bo m cb h _ (by omega) HB2.out hnb).mono ?_
    rintro e wt2 ⟨tb2, tcb2, rfl, hbY, hrtY, _⟩
    have HA := hid (HA2.out.below hbY (Nat.le_refl _)); have HB := hid (HB2.out.below hbY (Nat.le_refl _)); have BW := hid (BW2.out.trans (hbY.mono BW2.out.size)); have TA2 := hid (TA.out.below hbY (Nat.le_refl _)); have TB := hid hrtY
    clear HA2 HB2 BW2 hbY hrtY TA
    go_wp2_with fail
    refine (Add_c ta2 tb2 n m tca2 tcb2 f h _ (by omega) (by omega) TA2.out TB.out HLa.out HLb.out).mono ?_
    rintro e wa1 ⟨x4, k4, d4, sq, er2, rfl, hres4, hc4⟩
    obtain ⟨rfl, hv4⟩ : er2 = 0 ∧ vf sq k4 = vf f n + vf h m := by
      rcases hc4 with h | h
      · exact ⟨h.2.2.1, h.2.2.2⟩
      · exact absurd ⟨FA.out, FB.out⟩ h.1
    have hbz := hres4.bel
    have hk4 : k4 ≤ 121 := by have := hres4.le; omega
    have HA2 := hid (HA.out.below hbz (Nat.le_refl _)); have HB2 := hid (HB.out.below hbz (Nat.le_refl _)); have BW2 := hid (BW.out.trans (hbz.mono BW.out.size)); have RS := hid hres4.rd; have LS := hid hres4.lm; have FS := hid hres4.fm; have HV4 := hid hv4
    clear HA HB BW hbz TA2 TB hres4 hc4 hv4
    go_wp2_with fail
    refine (twin_c bo m cb h _ (by omega) HB2.out hnb).mono ?_
    rintro e wt3 ⟨tb3, tcb3, rfl, hbY, hrtY, _⟩
    have HA := hid (HA2.out.below hbY (Nat.le_refl _)); have BW := hid (BW2.out.trans (hbY.mono BW2.out.size)); have TB := hid hrtY; have RS2 := hid (RS.out.below hbY (Nat.le_refl _))
    clear HA2 HB2 BW2 hbY hrtY RS
    go_wp2_with fail
    refine (Sub_c x4 tb3 k4 m d4 tcb3 sq h _ (by omega) (by omega) RS2.out TB.out LS.out HLb.out).mono ?_
    rintro e wa2 ⟨x5, k5, d5, bq, er3, rfl, hres5, hc5⟩
    obtain ⟨rfl, hv5⟩ : er3 = 0 ∧ vf bq k5 = vf sq k4 - vf h m := by
      rcases hc5 with h | h | h
      · exact ⟨h.2.2.2.1, h.2.2.2.2⟩
      · have a1 := h.2.2.1; have a2 := HV4.out; have a3 := vf_nonneg HLa.out; omega
      · exact absurd ⟨FS.out, FB.out⟩ h.1
    have hbz := hres5.bel
    have hk5 : k5 ≤ 121 := by have := hres5.le; omega
    have HA2 := hid (HA.out.below hbz (Nat.le_refl _)); have BW2 := hid (BW.out.trans (hbz.mono BW.out.size)); have RB := hid hres5.rd; have LB := hid hres5.lm; have FBq := hid hres5.fm; have HV5 := hid hv5
    clear HA BW hbz TB RS2 hres5 hc5 hv5
    go_wp2_with fail
    refine (same_true x5 ao k5 n d5 ca bq f _ (by omega) (by omega) RB.out HA2.out LB.out HLa.out FBq.out FA.out (by rw [HV5.out, HV4.out]; omega)).mono ?_
    rintro e ws3 ⟨rfl, q3, hq⟩
    subst hq
    go_wp2
    go_ret
    exact ⟨rfl, below_drewN BW2.out q3⟩
  · obtain rfl : er0 = 11 := by
      rcases hra0 with h | h | h
      · omega
      · exact h.2.2.1
      · exact absurd h.2.1 hnum
    have HA := HA2; have HB := HB2; have BW := BW2; have HT := HT2
    clear HA2 HB2 BW2 HT2 hres0 hra0 hnum
    go_wp2_with fail
    refine (twin_c ao n ca f _ (by omega) HA.out hna).mono ?_
    rintro e wx1 ⟨ta, tca, rfl, hbX, hrtX, hown⟩
    obtain ⟨hc1, hc2⟩ := own_caps hown
    have HA2 := hid (HA.out.below hbX (Nat.le_refl _)); have HB2 := hid (HB.out.below hbX (Nat.le_refl _)); have BW2 := hid (BW.out.trans (hbX.mono BW.out.size)); have TA := hid hrtX; have HTg := hid (own_tg hown); have HT2 := hid (HT.out.below hbX HT.out.lt)
    clear HA HB BW hbX hrtX hown HT
    go_wp2_with fail
    refine (TextAll_c ta n tca f _ (by omega) TA.out HTg.out HLa.out HT2.out hc1 hc2).mono ?_
    rintro e wz1 ⟨rfl, hbz⟩
    have HA := hid (HA2.out.below hbz (Nat.le_refl _)); have HB := hid (HB2.out.below hbz (Nat.le_refl _)); have BW := hid (BW2.out.trans (hbz.mono BW2.out.size))
    clear HA2 HB2 BW2 hbz TA HTg HT2
    cases hfa : fmB f n
    · rw [show ter f n = 3 by simp [ter, hfa]]
      have C1 := hid (fun W hr' => hfa ▸ form_c ao n ca f W (by omega) hr')
      generalize txt f n = T at *
      clear hfa
      go_wp2_with fail
      refine (C1.out _ HA.out).mono ?_
      rintro e w2 ⟨rfl, rfl⟩
      go_wp2
      go_ret
      exact ⟨rfl, BW.out⟩
    have FA := hid (fm_of hfa)
    have hv0 := vf_nonneg HLa.out
    have hv1 := vf_lt HLa.out
    obtain ⟨V, hV⟩ : ∃ V, (vf f n).toNat = V := ⟨_, rfl⟩
    have hvV : vf f n = (V : Int) := by omega
    rw [show ter f n = 0 by simp [ter, hfa], show txt f n = ⟨(Lib.decDigits V).toArray⟩ by simp [txt, hfa, hV]]
    have hnd : Lib.nDigits V ≤ 1048576 := by
      have h1 : (V : Int) < pw n := by omega
      have h2 : pw n ≤ pw 60 := pw_mono (by omega)
      have h3 : pw 60 ≤ ((10 ^ 1200 : Nat) : Int) := by decide +kernel
      have : V < 10 ^ 1200 := by omega
      have := nDigits_le this (by omega)
      omega
    have CR := hid (fun W => Read_c ⟨(Lib.decDigits V).toArray⟩ (Lib.nDigits V) _ W (sb_dec V))
    have HvV := hid hvV; have HND := hid hnd
    generalize (ByteArray.mk (Lib.decDigits V).toArray) = T at *
    clear hfa hv0 hv1 hV hvV hnd
    go_wp2_with fail
    refine (CR.out _).mono ?_
    rintro e wr1 ⟨x1, k1, e1, g1, er1, rfl, hres, hra⟩
    obtain ⟨rfl, hval⟩ : er1 = 0 ∧ vf g1 k1 = (V : Int) := by
      rcases hra with h | h | h
      · have := HND.out; omega
      · exact absurd (isNum_dec V) h.2.1
      · exact ⟨h.2.2.1, by rw [h.2.2.2, dn_dec]⟩
    have hbz := hres.bel
    have hk1 : k1 ≤ 4294967296 := hres.le
    have HA2 := hid (HA.out.below hbz (Nat.le_refl _)); have HB2 := hid (HB.out.below hbz (Nat.le_refl _)); have BW2 := hid (BW.out.trans (hbz.mono BW.out.size)); have X1 := hid hres.rd; have X1l := hid hres.lm; have X1f := hid hres.fm; have HVal := hid (show vf g1 k1 = vf f n by rw [hval, HvV.out])
    clear HA HB BW hbz hres hra hval CR
    go_wp2_with fail
    refine (same_true x1 ao k1 n e1 ca g1 f _ (by omega) (by omega) X1.out HA2.out X1l.out HLa.out X1f.out FA.out HVal.out).mono ?_
    rintro e ws1 ⟨rfl, q1, hq⟩
    have hbz : Below wr1.heap.size wr1 ws1 := by rw [hq]; exact below_drewN (Below.refl _ _) _
    have HA := hid (HA2.out.below hbz (Nat.le_refl _)); have HB := hid (HB2.out.below hbz (Nat.le_refl _)); have BW := hid (BW2.out.trans (hbz.mono BW2.out.size)); have X2 := hid (X1.out.below hbz (Nat.le_refl _))
    clear HA2 HB2 BW2 hbz hq X1
    cases hfb : fmB h m
    · have C2 := hid (fun W hr' => hfb ▸ form_c bo m cb h W (by omega) hr')
      clear hfb
      go_wp2_with fail
      refine (C2.out _ HB.out).mono ?_
      rintro e w2 ⟨rfl, rfl⟩
      go_wp2_with fail
      refine (same_true x1 ao k1 n e1 ca g1 f _ (by omega) (by omega) X2.out HA.out X1l.out HLa.out X1f.out FA.out HVal.out).mono ?_
      rintro e ws2 ⟨rfl, q2, hq⟩
      subst hq
      go_wp2
      go_ret
      exact ⟨rfl, below_drewN BW.out q2⟩
    have C2 := hid (fun W hr' => hfb ▸ form_c bo m cb h W (by omega) hr')
    have FB := hid (fm_of hfb)
    clear hfb X2 HVal X1l X1f
    go_wp2_with fail
    refine (C2.out _ HB.out).mono ?_
    rintro e w2 ⟨rfl, rfl⟩
    go_wp2_with fail
    refine (twin_c ao n ca f _ (by omega) HA.out hna).mono ?_
    rintro e wt1 ⟨ta2, tca2, rfl, hbX, hrtX, _⟩
    have HA2 := hid (HA.out.below hbX (Nat.le_refl _)); have HB2 := hid (HB.out.below hbX (Nat.le_refl _)); have BW2 := hid (BW.out.trans (hbX.mono BW.out.size)); have TA := hid hrtX
    clear HA HB BW hbX hrtX
    go_wp2_with fail
    refine (twin_c bo m cb h _ (by omega) HB2.out hnb).mono ?_
    rintro e wt2 ⟨tb2, tcb2, rfl, hbY, hrtY, _⟩
    have HA := hid (HA2.out.below hbY (Nat.le_refl _)); have HB := hid (HB2.out.below hbY (Nat.le_refl _)); have BW := hid (BW2.out.trans (hbY.mono BW2.out.size)); have TA2 := hid (TA.out.below hbY (Nat.le_refl _)); have TB := hid hrtY
    clear HA2 HB2 BW2 hbY hrtY TA
    go_wp2_with fail
    refine (Add_c ta2 tb2 n m tca2 tcb2 f h _ (by omega) (by omega) TA2.out TB.out HLa.out HLb.out).mono ?_
    rintro e wa1 ⟨x4, k4, d4, sq, er2, rfl, hres4, hc4⟩
    obtain ⟨rfl, hv4⟩ : er2 = 0 ∧ vf sq k4 = vf f n + vf h m := by
      rcases hc4 with h | h
      · exact ⟨h.2.2.1, h.2.2.2⟩
      · exact absurd ⟨FA.out, FB.out⟩ h.1
    have hbz := hres4.bel
    have hk4 : k4 ≤ 121 := by have := hres4.le; omega
    have HA2 := hid (HA.out.below hbz (Nat.le_refl _)); have HB2 := hid (HB.out.below hbz (Nat.le_refl _)); have BW2 := hid (BW.out.trans (hbz.mono BW.out.size)); have RS := hid hres4.rd; have LS := hid hres4.lm; have FS := hid hres4.fm; have HV4 := hid hv4
    clear HA HB BW hbz TA2 TB hres4 hc4 hv4
    go_wp2_with fail
    refine (twin_c bo m cb h _ (by omega) HB2.out hnb).mono ?_
    rintro e wt3 ⟨tb3, tcb3, rfl, hbY, hrtY, _⟩
    have HA := hid (HA2.out.below hbY (Nat.le_refl _)); have BW := hid (BW2.out.trans (hbY.mono BW2.out.size)); have TB := hid hrtY; have RS2 := hid (RS.out.below hbY (Nat.le_refl _))
    clear HA2 HB2 BW2 hbY hrtY RS
    go_wp2_with fail
    refine (Sub_c x4 tb3 k4 m d4 tcb3 sq h _ (by omega) (by omega) RS2.out TB.out LS.out HLb.out).mono ?_
    rintro e wa2 ⟨x5, k5, d5, bq, er3, rfl, hres5, hc5⟩
    obtain ⟨rfl, hv5⟩ : er3 = 0 ∧ vf bq k5 = vf sq k4 - vf h m := by
      rcases hc5 with h | h | h
      · exact ⟨h.2.2.2.1, h.2.2.2.2⟩
      · have a1 := h.2.2.1; have a2 := HV4.out; have a3 := vf_nonneg HLa.out; omega
      · exact absurd ⟨FS.out, FB.out⟩ h.1
    have hbz := hres5.bel
    have hk5 : k5 ≤ 121 := by have := hres5.le; omega
    have HA2 := hid (HA.out.below hbz (Nat.le_refl _)); have BW2 := hid (BW.out.trans (hbz.mono BW.out.size)); have RB := hid hres5.rd; have LB := hid hres5.lm; have FBq := hid hres5.fm; have HV5 := hid hv5
    clear HA BW hbz TB RS2 hres5 hc5 hv5
    go_wp2_with fail
    refine (same_true x5 ao k5 n d5 ca bq f _ (by omega) (by omega) RB.out HA2.out LB.out HLa.out FBq.out FA.out (by rw [HV5.out, HV4.out]; omega)).mono ?_
    rintro e ws3 ⟨rfl, q3, hq⟩
    subst hq
    go_wp2
    go_ret
    exact ⟨rfl, below_drewN BW2.out q3⟩
end Go.Proofs.YtjjbmioicliipabDoor

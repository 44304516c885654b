/-
  The walk of the statement NatCommon.
-/
import Derived.Test.YtjjbmioicliipabDoorA2
import Derived.Test.YtjjbmioicliipabDoorE1
import Derived.Test.YtjjbmioicliipabDoorE2
import Derived.Test.YtjjbmioicliipabDoorR2
namespace Go.Proofs.YtjjbmioicliipabDoor
open Go.RowKit

theorem own_caps {k e w base ao n cap f} (h : Own k e w base (.slice ao n cap) n f) : n ≤ cap ∧ cap ≤ 9223372036854775807 := by
  obtain ⟨ao', cap', hv, h1, _, h3, _⟩ := h.shape
  cases hv
  unfold maxLen at h3
  exact ⟨h1, by omega⟩
theorem gcd_agree {F H : Prop} {e1 e2 A B : Int} {k1 k2 : Nat} {g1 g2 : Nat → Int} (h1 : F ∧ H ∧ e1 = 0 ∧ vf g1 k1 = (Nat.gcd A.toNat B.toNat : Nat) ∨ ¬ (F ∧ H) ∧ e1 = 3 ∧ k1 = 0) (h2 : H ∧ F ∧ e2 = 0 ∧ vf g2 k2 = (Nat.gcd B.toNat A.toNat : Nat) ∨ ¬ (H ∧ F) ∧ e2 = 3 ∧ k2 = 0) : e1 = e2 ∧ vf g1 k1 = vf g2 k2 := by
  rcases h1 with ⟨a, b, rfl, c⟩ | ⟨a, rfl, rfl⟩ <;> rcases h2 with ⟨a', b', rfl, c'⟩ | ⟨a', rfl, rfl⟩
  · exact ⟨rfl, by rw [c, c', Nat.gcd_comm]⟩
  · exact absurd ⟨b, a⟩ a'
  · exact absurd ⟨b', a'⟩ a
  · exact ⟨rfl, rfl⟩
theorem dvd_of_gcd_l {A : Int} {B : Nat} (h : 0 ≤ A) : ((Nat.gcd A.toNat B : Nat) : Int) ∣ A := by
  have := Int.natCast_dvd_natCast.2 (Nat.gcd_dvd_left A.toNat B)
  rwa [Int.toNat_of_nonneg h] at this
theorem dvd_of_gcd_r {A : Nat} {B : Int} (h : 0 ≤ B) : ((Nat.gcd A B.toNat : Nat) : Int) ∣ B := by
  have := Int.natCast_dvd_natCast.2 (Nat.gcd_dvd_right A B.toNat)
  rwa [Int.toNat_of_nonneg h] at this
theorem rest_nil {A q G : Int} {r : Nat → Int} {j : Nat} (hl : Lm r j) (hf : Fm r j) (h : A = q * G + vf r j) (h0 : 0 ≤ vf r j) (h1 : vf r j < G) (hd : G ∣ A) : j = 0 := by
  have hd2 : G ∣ vf r j := by
    have e : vf r j = A - q * G := by omega
    rw [e]; exact Int.dvd_sub hd (Int.dvd_mul_left _ _)
  have hz : vf r j = 0 := (Int.emod_eq_of_lt h0 h1).symm.trans (Int.emod_eq_zero_of_dvd hd2)
  apply Nat.eq_zero_of_not_pos
  intro hp
  have := vf_form_ge hl hf hp; have := pw_pos (j - 1); omega
theorem one_of {A B q s G : Int} (ha : A = q * G) (hb : B = s * G) (hG : G = (Nat.gcd A.toNat B.toNat : Nat)) (q0 : 0 ≤ q) (s0 : 0 ≤ s) (g0 : 0 < G) : ((Nat.gcd q.toNat s.toNat : Nat) : Int) = 1 := by
  obtain ⟨q, rfl⟩ := Int.eq_ofNat_of_zero_le q0
  obtain ⟨s, rfl⟩ := Int.eq_ofNat_of_zero_le s0
  obtain ⟨G, rfl⟩ := Int.eq_ofNat_of_zero_le (Int.le_of_lt g0)
  have ea : A.toNat = q * G := by rw [ha]; exact_mod_cast Int.toNat_natCast (q * G)
  have eb : B.toNat = s * G := by rw [hb]; exact_mod_cast Int.toNat_natCast (s * G)
  rw [ea, eb, Nat.gcd_mul_right] at hG
  have hG2 : G = Nat.gcd q s * G := by exact_mod_cast hG
  have hgp : 0 < G := by omega
  have : Nat.gcd q s = 1 := by
    have h : 1 * G = Nat.gcd q s * G := by omega
    exact (Nat.eq_of_mul_eq_mul_right hgp h).symm
  simp [this]
theorem big_of {A B K : Int} (a0 : 0 ≤ A) (b0 : 0 ≤ B) (k0 : 0 ≤ K) : ((Nat.gcd (A * K).toNat (B * K).toNat : Nat) : Int) = (Nat.gcd A.toNat B.toNat : Nat) * K := by
  obtain ⟨A, rfl⟩ := Int.eq_ofNat_of_zero_le a0
  obtain ⟨B, rfl⟩ := Int.eq_ofNat_of_zero_le b0
  obtain ⟨K, rfl⟩ := Int.eq_ofNat_of_zero_le k0
  have e1 : ((A : Int) * K).toNat = A * K := by exact_mod_cast Int.toNat_natCast (A * K)
  have e2 : ((B : Int) * K).toNat = B * K := by exact_mod_cast Int.toNat_natCast (B * K)
  rw [e1, e2, Nat.gcd_mul_right]
  simp

set_option maxRecDepth 100000 in
set_option maxHeartbeats 16000000 in
theorem natCommon_c (ao bo ko : Option Addr) (n m l ca cb ck : Nat) (f h kf : Nat → Int) (w : World) (hn : n ≤ 9223372036854775807) (hm : m ≤ 9223372036854775807) (hl : l ≤ 9223372036854775807) (hr : Rd .u64 w ao n f) (hs : Rd .u64 w bo m h) (hk : Rd .u64 w ko l kf) (hf : Lm f n) (hh : Lm h m) (hlk : Lm kf l) (hna : ao = none → n = 0 ∧ ca = 0) (hnb : bo = none → m = 0 ∧ cb = 0) (hnk : ko = none → l = 0 ∧ ck = 0) (htab : Tab w) :
    Calls Tryd.prog 3 #[.slice ao n ca, .slice bo m cb, .slice ko l ck] w fun e w' => e = .returned (.bool true) ∧ Below w.heap.size w w' := by
  have HLa := hid hf; have HLb := hid hh; have HLk := hid hlk
  have CW := hid (awake_c w htab)
  obtain ⟨bl, hbl⟩ : ∃ bl, decide (n ≤ 60 ∧ m ≤ 60) = bl := ⟨_, rfl⟩
  have C3 := hid (fun W => hbl ▸ light_c ao bo n m ca cb W)
  have HA0 := hid hr; have HB0 := hid hs; have HK0 := hid hk
  clear hf hh hlk htab hr hs hk
  cases bl
  · clear hbl
    go_enter Tryd.func3, Tryd.ntmps3
    go_wp2_with fail
    refine CW.out.mono ?_
    rintro e w1 ⟨rfl, hb1⟩
    go_wp2_with fail
    refine (C3.out _).mono ?_
    rintro e w2 ⟨rfl, rfl⟩
    go_wp2
    go_ret
    exact ⟨rfl, hb1⟩
  have hnm : n ≤ 60 ∧ m ≤ 60 := of_decide_eq_true hbl
  obtain ⟨hn60, hm60⟩ := hnm
  clear hbl
  by_cases hl10 : 10 < l
  · have d2 : decide ((10 : Int) < (l : Int)) = true := by simp; omega
    go_enter Tryd.func3, Tryd.ntmps3
    go_wp2_with fail
    refine CW.out.mono ?_
    rintro e w1 ⟨rfl, hb1⟩
    go_wp2_with fail
    refine (C3.out _).mono ?_
    rintro e w2 ⟨rfl, rfl⟩
    go_wp2
    go_ret
    exact ⟨rfl, hb1⟩
  have d2 : decide ((10 : Int) < (l : Int)) = false := by simp; omega
  go_enter Tryd.func3, Tryd.ntmps3
  go_wp2_with fail
  refine CW.out.mono ?_
  rintro e w1 ⟨rfl, hb1⟩
  have HA := hid (HA0.out.below hb1 (Nat.le_refl _)); have HB := hid (HB0.out.below hb1 (Nat.le_refl _)); have HK := hid (HK0.out.below hb1 (Nat.le_refl _)); have BW := hid hb1
  clear hb1 CW HA0 HB0 HK0
  go_wp2_with fail
  refine (C3.out _).mono ?_
  rintro e w2 ⟨rfl, rfl⟩
  clear C3
  go_wp2_with fail
  refine (twin_c ao n ca f _ (by omega) HA.out hna).mono ?_
  rintro e w1 ⟨t1, c1, rfl, hb1, hr1, ho1⟩
  obtain ⟨u1, v1⟩ := own_caps ho1
  have HT1 := hid hr1
  clear hr1 ho1
  have HA_1 := hid (HA.out.below hb1 (Nat.le_refl _))
  have HB_1 := hid (HB.out.below hb1 (Nat.le_refl _))
  have HK_1 := hid (HK.out.below hb1 (Nat.le_refl _))
  have BW_1 := hid (BW.out.trans (hb1.mono BW.out.size))
  clear HA HB HK BW
  clear hb1
  go_wp2_with fail
  refine (twin_c bo m cb h _ (by omega) HB_1.out hnb).mono ?_
  rintro e w2 ⟨t2, c2, rfl, hb2, hr2, ho2⟩
  obtain ⟨u2, v2⟩ := own_caps ho2
  have HT2 := hid hr2
  clear hr2 ho2
  have HA_2 := hid (HA_1.out.below hb2 (Nat.le_refl _))
  have HB_2 := hid (HB_1.out.below hb2 (Nat.le_refl _))
  have HK_2 := hid (HK_1.out.below hb2 (Nat.le_refl _))
  have T1_2 := hid (HT1.out.below hb2 (Nat.le_refl _))
  have BW_2 := hid (BW_1.out.trans (hb2.mono BW_1.out.size))
  clear HA_1 HB_1 HK_1 HT1 BW_1
  clear hb2
  go_wp2_with fail
  refine (Gcd_c t1 t2 n m c1 c2 f h _ (by omega) (by omega) T1_2.out HT2.out HLa.out HLb.out).mono ?_
  rintro e wgg1 ⟨xg1, kg1, dg1, gg1, erg1, rfl, hresg1, hcg1⟩
  have HCg1 := hid hcg1
  clear hcg1
  have hbzg1 := hresg1.bel
  have hkg1 : kg1 ≤ 61 := by have := hresg1.le; omega
  have hncg1 := hresg1.ncap
  have Rg1 := hid hresg1.rd; have Lg1 := hid hresg1.lm; have Fg1 := hid hresg1.fm
  clear hresg1
  have HA_3 := hid (HA_2.out.below hbzg1 (Nat.le_refl _))
  have HB_3 := hid (HB_2.out.below hbzg1 (Nat.le_refl _))
  have HK_3 := hid (HK_2.out.below hbzg1 (Nat.le_refl _))
  have T1_3 := hid (T1_2.out.below hbzg1 (Nat.le_refl _))
  have T2_3 := hid (HT2.out.below hbzg1 (Nat.le_refl _))
  have BW_3 := hid (BW_2.out.trans (hbzg1.mono BW_2.out.size))
  clear HA_2 HB_2 HK_2 T1_2 HT2 BW_2
  clear hbzg1
  clear T1_3 T2_3
  go_wp2_with fail
  refine (twin_c bo m cb h _ (by omega) HB_3.out hnb).mono ?_
  rintro e w3 ⟨t3, c3, rfl, hb3, hr3, ho3⟩
  obtain ⟨u3, v3⟩ := own_caps ho3
  have HT3 := hid hr3
  clear hr3 ho3
  have HA_4 := hid (HA_3.out.below hb3 (Nat.le_refl _))
  have HB_4 := hid (HB_3.out.below hb3 (Nat.le_refl _))
  have HK_4 := hid (HK_3.out.below hb3 (Nat.le_refl _))
  have Rg1_4 := hid (Rg1.out.below hb3 (Nat.le_refl _))
  have BW_4 := hid (BW_3.out.trans (hb3.mono BW_3.out.size))
  clear HA_3 HB_3 HK_3 Rg1 BW_3
  clear hb3
  go_wp2_with fail
  refine (twin_c ao n ca f _ (by omega) HA_4.out hna).mono ?_
  rintro e w4 ⟨t4, c4, rfl, hb4, hr4, ho4⟩
  obtain ⟨u4, v4⟩ := own_caps ho4
  have HT4 := hid hr4
  clear hr4 ho4
  have HA_5 := hid (HA_4.out.below hb4 (Nat.le_refl _))
  have HB_5 := hid (HB_4.out.below hb4 (Nat.le_refl _))
  have HK_5 := hid (HK_4.out.below hb4 (Nat.le_refl _))
  have Rg1_5 := hid (Rg1_4.out.below hb4 (Nat.le_refl _))
  have T3_5 := hid (HT3.out.below hb4 (Nat.le_refl _))
  have BW_5 := hid (BW_4.out.trans (hb4.mono BW_4.out.size))
  clear HA_4 HB_4 HK_4 Rg1_4 HT3 BW_4
  clear hb4
  go_wp2_with fail
  refine (Gcd_c t3 t4 m n c3 c4 h f _ (by omega) (by omega) T3_5.out HT4.out HLb.out HLa.out).mono ?_
  rintro e wgg2 ⟨xg2, kg2, dg2, gg2, erg2, rfl, hresg2, hcg2⟩
  have HCg2 := hid hcg2
  clear hcg2
  have hbzg2 := hresg2.bel
  have hkg2 : kg2 ≤ 61 := by have := hresg2.le; omega
  have hncg2 := hresg2.ncap
  have Rg2 := hid hresg2.rd; have Lg2 := hid hresg2.lm; have Fg2 := hid hresg2.fm
  clear hresg2
  have HA_6 := hid (HA_5.out.below hbzg2 (Nat.le_refl _))
  have HB_6 := hid (HB_5.out.below hbzg2 (Nat.le_refl _))
  have HK_6 := hid (HK_5.out.below hbzg2 (Nat.le_refl _))
  have Rg1_6 := hid (Rg1_5.out.below hbzg2 (Nat.le_refl _))
  have T3_6 := hid (T3_5.out.below hbzg2 (Nat.le_refl _))
  have T4_6 := hid (HT4.out.below hbzg2 (Nat.le_refl _))
  have BW_6 := hid (BW_5.out.trans (hbzg2.mono BW_5.out.size))
  clear HA_5 HB_5 HK_5 Rg1_5 T3_5 HT4 BW_5
  clear hbzg2
  clear T3_6 T4_6
  obtain ⟨heq, hval⟩ := gcd_agree HCg1.out HCg2.out
  subst heq
  have HVal := hid hval
  have hne : (erg1 != erg1) = false := by simp
  clear hval HCg2
  go_wp2_with fail
  refine (same_true xg1 xg2 kg1 kg2 dg1 dg2 gg1 gg2 _ (by omega) (by omega) Rg1_6.out Rg2.out Lg1.out Lg2.out Fg1.out Fg2.out HVal.out).mono ?_
  rintro e ws1 ⟨rfl, q1, hq1⟩
  have hbs1 : Below wgg2.heap.size wgg2 ws1 := by rw [hq1]; exact below_drewN (Below.refl _ _) _
  have HA_7 := hid (HA_6.out.below hbs1 (Nat.le_refl _))
  have HB_7 := hid (HB_6.out.below hbs1 (Nat.le_refl _))
  have HK_7 := hid (HK_6.out.below hbs1 (Nat.le_refl _))
  have Rg1_7 := hid (Rg1_6.out.below hbs1 (Nat.le_refl _))
  have Rg2_7 := hid (Rg2.out.below hbs1 (Nat.le_refl _))
  have BW_7 := hid (BW_6.out.trans (hbs1.mono BW_6.out.size))
  clear HA_6 HB_6 HK_6 Rg1_6 Rg2 BW_6
  clear hbs1 hq1 HVal
  clear Rg2_7
  rcases HCg1.out with ⟨fa, fb, er0, hv⟩ | ⟨_, er3, _⟩
  · subst er0
    have FA := hid fa; have FB := hid fb; have HG := hid hv
    clear fa fb hv HCg1
    by_cases hg0 : kg1 = 0
    · have hgb : ((kg1 : Int) == 0) = true := by simp [hg0]
      clear hg0
      go_wp2
      go_ret
      exact ⟨rfl, BW_7.out⟩
    have hgb : ((kg1 : Int) == 0) = false := by simp [hg0]
    cases hfk : fmB kf l
    · have CK := hid (fun W hr' => hfk ▸ form_c ko l ck kf W (by omega) hr')
      clear hfk
      go_wp2_with fail
      refine (CK.out _ HK_7.out).mono ?_
      rintro e w9 ⟨rfl, rfl⟩
      go_wp2
      go_ret
      exact ⟨rfl, BW_7.out⟩
    have CK := hid (fun W hr' => hfk ▸ form_c ko l ck kf W (by omega) hr')
    have FK := hid (fm_of hfk)
    clear hfk
    by_cases hl0 : l = 0
    · have hlb : ((l : Int) == 0) = true := by simp [hl0]
      have HL0 := hid hl0
      clear hl0
      go_wp2_with fail
      refine (CK.out _ HK_7.out).mono ?_
      rintro e w9 ⟨rfl, rfl⟩
      go_wp2
      go_ret
      exact ⟨rfl, BW_7.out⟩
    have hlb : ((l : Int) == 0) = false := by simp [hl0]
    go_wp2_with fail
    refine (CK.out _ HK_7.out).mono ?_
    rintro e w9 ⟨rfl, rfl⟩
    clear CK
    have hApos := vf_nonneg HLa.out; have hBpos := vf_nonneg HLb.out
    have HDVa := hid (show (vf gg1 kg1) ∣ vf f n by rw [HG.out]; exact dvd_of_gcd_l hApos); have HDVb := hid (show (vf gg1 kg1) ∣ vf h m by rw [HG.out]; exact dvd_of_gcd_r hBpos)
    clear hApos hBpos
    go_wp2_with fail
    refine (twin_c ao n ca f _ (by omega) HA_7.out hna).mono ?_
    rintro e w5 ⟨t5, c5, rfl, hb5, hr5, ho5⟩
    obtain ⟨u5, v5⟩ := own_caps ho5
    have HT5 := hid hr5
    clear hr5 ho5
    have HA_8 := hid (HA_7.out.below hb5 (Nat.le_refl _))
    have HB_8 := hid (HB_7.out.below hb5 (Nat.le_refl _))
    have HK_8 := hid (HK_7.out.below hb5 (Nat.le_refl _))
    have Rg1_8 := hid (Rg1_7.out.below hb5 (Nat.le_refl _))
    have BW_8 := hid (BW_7.out.trans (hb5.mono BW_7.out.size))
    clear HA_7 HB_7 HK_7 Rg1_7 BW_7
    clear hb5
    go_wp2_with fail
    refine (DivMod_c t5 xg1 n kg1 c5 dg1 f gg1 _ (by omega) (by omega) HT5.out Rg1_8.out HLa.out Lg1.out).mono ?_
    rintro e wda ⟨xa, ka, da, ga, ya, ja, ba, ra, era, rfl, hresa, hresra, hca⟩
    obtain ⟨rfl, hqa, hr0a, hr1a⟩ : era = 0 ∧ vf f n = vf ga ka * vf gg1 kg1 + vf ra ja ∧ 0 ≤ vf ra ja ∧ vf ra ja < vf gg1 kg1 := by
      rcases hca with h | h | h
      · exact ⟨h.2.2.2.1, h.2.2.2.2⟩
      · omega
      · exact absurd ⟨FA.out, Fg1.out⟩ h.1
    have hja : ja = 0 := rest_nil hresra.lm hresra.fm hqa hr0a hr1a HDVa.out
    have HQa := hid (show vf f n = vf ga ka * vf gg1 kg1 by rw [hqa, hja]; simp [vf])
    subst hja
    clear hca hqa hr0a hr1a hresra
    have hbza := hresa.bel
    have hka : ka ≤ 60 := by have := hresa.le; omega
    have hnca := hresa.ncap
    have Ra := hid hresa.rd; have La := hid hresa.lm; have Fa := hid hresa.fm
    clear hresa
    have HA_9 := hid (HA_8.out.below hbza (Nat.le_refl _))
    have HB_9 := hid (HB_8.out.below hbza (Nat.le_refl _))
    have HK_9 := hid (HK_8.out.below hbza (Nat.le_refl _))
    have Rg1_9 := hid (Rg1_8.out.below hbza (Nat.le_refl _))
    have T5_9 := hid (HT5.out.below hbza (Nat.le_refl _))
    have BW_9 := hid (BW_8.out.trans (hbza.mono BW_8.out.size))
    clear HA_8 HB_8 HK_8 Rg1_8 HT5 BW_8
    clear hbza
    clear T5_9
    go_wp2_with fail
    refine (twin_c bo m cb h _ (by omega) HB_9.out hnb).mono ?_
    rintro e w6 ⟨t6, c6, rfl, hb6, hr6, ho6⟩
    obtain ⟨u6, v6⟩ := own_caps ho6
    have HT6 := hid hr6
    clear hr6 ho6
    have HA_10 := hid (HA_9.out.below hb6 (Nat.le_refl _))
    have HB_10 := hid (HB_9.out.below hb6 (Nat.le_refl _))
    have HK_10 := hid (HK_9.out.below hb6 (Nat.le_refl _))
    have Rg1_10 := hid (Rg1_9.out.below hb6 (Nat.le_refl _))
    have Ra_10 := hid (Ra.out.below hb6 (Nat.le_refl _))
    have BW_10 := hid (BW_9.out.trans (hb6.mono BW_9.out.size))
    clear HA_9 HB_9 HK_9 Rg1_9 Ra BW_9
    clear hb6
    go_wp2_with fail
    refine (DivMod_c t6 xg1 m kg1 c6 dg1 h gg1 _ (by omega) (by omega) HT6.out Rg1_10.out HLb.out Lg1.out).mono ?_
    rintro e wdb ⟨xb, kb, db, gb, yb, jb, bb, rb, erb, rfl, hresb, hresrb, hcb⟩
    obtain ⟨rfl, hqb, hr0b, hr1b⟩ : erb = 0 ∧ vf h m = vf gb kb * vf gg1 kg1 + vf rb jb ∧ 0 ≤ vf rb jb ∧ vf rb jb < vf gg1 kg1 := by
      rcases hcb with h | h | h
      · exact ⟨h.2.2.2.1, h.2.2.2.2⟩
      · omega
      · exact absurd ⟨FB.out, Fg1.out⟩ h.1
    have hjb : jb = 0 := rest_nil hresrb.lm hresrb.fm hqb hr0b hr1b HDVb.out
    have HQb := hid (show vf h m = vf gb kb * vf gg1 kg1 by rw [hqb, hjb]; simp [vf])
    subst hjb
    clear hcb hqb hr0b hr1b hresrb
    have hbzb := hresb.bel
    have hkb : kb ≤ 60 := by have := hresb.le; omega
    have hncb := hresb.ncap
    have Rb := hid hresb.rd; have Lb := hid hresb.lm; have Fb := hid hresb.fm
    clear hresb
    have HA_11 := hid (HA_10.out.below hbzb (Nat.le_refl _))
    have HB_11 := hid (HB_10.out.below hbzb (Nat.le_refl _))
    have HK_11 := hid (HK_10.out.below hbzb (Nat.le_refl _))
    have Rg1_11 := hid (Rg1_10.out.below hbzb (Nat.le_refl _))
    have Ra_11 := hid (Ra_10.out.below hbzb (Nat.le_refl _))
    have T6_11 := hid (HT6.out.below hbzb (Nat.le_refl _))
    have BW_11 := hid (BW_10.out.trans (hbzb.mono BW_10.out.size))
    clear HA_10 HB_10 HK_10 Rg1_10 Ra_10 HT6 BW_10
    clear hbzb
    clear T6_11
    go_wp2_with fail
    refine (Gcd_c xa xb ka kb da db ga gb _ (by omega) (by omega) Ra_11.out Rb.out La.out Lb.out).mono ?_
    rintro e wgo ⟨xo, ko2, do2, go, ero, rfl, hreso, hco⟩
    obtain ⟨rfl, hvo⟩ : ero = 0 ∧ vf go ko2 = (Nat.gcd (vf ga ka).toNat (vf gb kb).toNat : Nat) := by
      rcases hco with h | h
      · exact ⟨h.2.2.1, h.2.2.2⟩
      · exact absurd ⟨Fa.out, Fb.out⟩ h.1
    have HVo := hid hvo
    clear hco hvo
    have hbzo := hreso.bel
    have hko : ko2 ≤ 61 := by have := hreso.le; omega
    have hnco := hreso.ncap
    have Ro := hid hreso.rd; have Lo := hid hreso.lm; have Fo := hid hreso.fm
    clear hreso
    have HA_12 := hid (HA_11.out.below hbzo (Nat.le_refl _))
    have HB_12 := hid (HB_11.out.below hbzo (Nat.le_refl _))
    have HK_12 := hid (HK_11.out.below hbzo (Nat.le_refl _))
    have Rg1_12 := hid (Rg1_11.out.below hbzo (Nat.le_refl _))
    have Ra_12 := hid (Ra_11.out.below hbzo (Nat.le_refl _))
    have Rb_12 := hid (Rb.out.below hbzo (Nat.le_refl _))
    have BW_12 := hid (BW_11.out.trans (hbzo.mono BW_11.out.size))
    clear HA_11 HB_11 HK_11 Rg1_11 Ra_11 Rb BW_11
    clear hbzo
    clear Ra_12 Rb_12
    go_wp2_with fail
    refine (twin_c ao n ca f _ (by omega) HA_12.out hna).mono ?_
    rintro e w7 ⟨t7, c7, rfl, hb7, hr7, ho7⟩
    obtain ⟨u7, v7⟩ := own_caps ho7
    have HT7 := hid hr7
    clear hr7 ho7
    have HA_13 := hid (HA_12.out.below hb7 (Nat.le_refl _))
    have HB_13 := hid (HB_12.out.below hb7 (Nat.le_refl _))
    have HK_13 := hid (HK_12.out.below hb7 (Nat.le_refl _))
    have Rg1_13 := hid (Rg1_12.out.below hb7 (Nat.le_refl _))
    have Ro_13 := hid (Ro.out.below hb7 (Nat.le_refl _))
    have BW_13 := hid (BW_12.out.trans (hb7.mono BW_12.out.size))
    clear HA_12 HB_12 HK_12 Rg1_12 Ro BW_12
    clear hb7
    go_wp2_with fail
    refine (twin_c ko l ck kf _ (by omega) HK_13.out hnk).mono ?_
    rintro e w8 ⟨t8, c8, rfl, hb8, hr8, ho8⟩
    obtain ⟨u8, v8⟩ := own_caps ho8
    have HT8 := hid hr8
    clear hr8 ho8
    have HA_14 := hid (HA_13.out.below hb8 (Nat.le_refl _))
    have HB_14 := hid (HB_13.out.below hb8 (Nat.le_refl _))
    have HK_14 := hid (HK_13.out.below hb8 (Nat.le_refl _))
    have Rg1_14 := hid (Rg1_13.out.below hb8 (Nat.le_refl _))
    have Ro_14 := hid (Ro_13.out.below hb8 (Nat.le_refl _))
    have T7_14 := hid (HT7.out.below hb8 (Nat.le_refl _))
    have BW_14 := hid (BW_13.out.trans (hb8.mono BW_13.out.size))
    clear HA_13 HB_13 HK_13 Rg1_13 Ro_13 HT7 BW_13
    clear hb8
    go_wp2_with fail
    refine (Mul_c t7 t8 n l c7 c8 f kf _ (by omega) (by omega) u7 u8 v7 v8 T7_14.out HT8.out HLa.out HLk.out).mono ?_
    rintro e wmx ⟨xx, kx, dx, gx, erx, rfl, hresx, hcx⟩
    obtain ⟨rfl, hvx⟩ : erx = 0 ∧ vf gx kx = vf f n * vf kf l := by
      rcases hcx with h | h
      · exact ⟨h.2.2.1, h.2.2.2⟩
      · exact absurd ⟨FA.out, FK.out⟩ h.1
    have HVx := hid hvx
    clear hcx hvx
    have hbzx := hresx.bel
    have hkx : kx ≤ 70 := by have := hresx.le; omega
    have hncx := hresx.ncap
    have Rx := hid hresx.rd; have Lx := hid hresx.lm; have Fx := hid hresx.fm
    clear hresx
    have HA_15 := hid (HA_14.out.below hbzx (Nat.le_refl _))
    have HB_15 := hid (HB_14.out.below hbzx (Nat.le_refl _))
    have HK_15 := hid (HK_14.out.below hbzx (Nat.le_refl _))
    have Rg1_15 := hid (Rg1_14.out.below hbzx (Nat.le_refl _))
    have Ro_15 := hid (Ro_14.out.below hbzx (Nat.le_refl _))
    have T7_15 := hid (T7_14.out.below hbzx (Nat.le_refl _))
    have T8_15 := hid (HT8.out.below hbzx (Nat.le_refl _))
    have BW_15 := hid (BW_14.out.trans (hbzx.mono BW_14.out.size))
    clear HA_14 HB_14 HK_14 Rg1_14 Ro_14 T7_14 HT8 BW_14
    clear hbzx
    clear T7_15 T8_15
    go_wp2_with fail
    refine (twin_c bo m cb h _ (by omega) HB_15.out hnb).mono ?_
    rintro e w9 ⟨t9, c9, rfl, hb9, hr9, ho9⟩
    obtain ⟨u9, v9⟩ := own_caps ho9
    have HT9 := hid hr9
    clear hr9 ho9
    have HA_16 := hid (HA_15.out.below hb9 (Nat.le_refl _))
    have HB_16 := hid (HB_15.out.below hb9 (Nat.le_refl _))
    have HK_16 := hid (HK_15.out.below hb9 (Nat.le_refl _))
    have Rg1_16 := hid (Rg1_15.out.below hb9 (Nat.le_refl _))
    have Ro_16 := hid (Ro_15.out.below hb9 (Nat.le_refl _))
    have Rx_16 := hid (Rx.out.below hb9 (Nat.le_refl _))
    have BW_16 := hid (BW_15.out.trans (hb9.mono BW_15.out.size))
    clear HA_15 HB_15 HK_15 Rg1_15 Ro_15 Rx BW_15
    clear hb9
    go_wp2_with fail
    refine (twin_c ko l ck kf _ (by omega) HK_16.out hnk).mono ?_
    rintro e w10 ⟨t10, c10, rfl, hb10, hr10, ho10⟩
    obtain ⟨u10, v10⟩ := own_caps ho10
    have HT10 := hid hr10
    clear hr10 ho10
    have HA_17 := hid (HA_16.out.below hb10 (Nat.le_refl _))
    have HB_17 := hid (HB_16.out.below hb10 (Nat.le_refl _))
    have HK_17 := hid (HK_16.out.below hb10 (Nat.le_refl _))
    have Rg1_17 := hid (Rg1_16.out.below hb10 (Nat.le_refl _))
    have Ro_17 := hid (Ro_16.out.below hb10 (Nat.le_refl _))
    have Rx_17 := hid (Rx_16.out.below hb10 (Nat.le_refl _))
    have T9_17 := hid (HT9.out.below hb10 (Nat.le_refl _))
    have BW_17 := hid (BW_16.out.trans (hb10.mono BW_16.out.size))
    clear HA_16 HB_16 HK_16 Rg1_16 Ro_16 Rx_16 HT9 BW_16
    clear hb10
    go_wp2_with fail
    refine (Mul_c t9 t10 m l c9 c10 h kf _ (by omega) (by omega) u9 u10 v9 v10 T9_17.out HT10.out HLb.out HLk.out).mono ?_
    rintro e wmy ⟨xy, ky, dy, gy, ery, rfl, hresy, hcy⟩
    obtain ⟨rfl, hvy⟩ : ery = 0 ∧ vf gy ky = vf h m * vf kf l := by
      rcases hcy with h | h
      · exact ⟨h.2.2.1, h.2.2.2⟩
      · exact absurd ⟨FB.out, FK.out⟩ h.1
    have HVy := hid hvy
    clear hcy hvy
    have hbzy := hresy.bel
    have hky : ky ≤ 70 := by have := hresy.le; omega
    have hncy := hresy.ncap
    have Ry := hid hresy.rd; have Ly := hid hresy.lm; have Fy := hid hresy.fm
    clear hresy
    have HA_18 := hid (HA_17.out.below hbzy (Nat.le_refl _))
    have HB_18 := hid (HB_17.out.below hbzy (Nat.le_refl _))
    have HK_18 := hid (HK_17.out.below hbzy (Nat.le_refl _))
    have Rg1_18 := hid (Rg1_17.out.below hbzy (Nat.le_refl _))
    have Ro_18 := hid (Ro_17.out.below hbzy (Nat.le_refl _))
    have Rx_18 := hid (Rx_17.out.below hbzy (Nat.le_refl _))
    have T9_18 := hid (T9_17.out.below hbzy (Nat.le_refl _))
    have T10_18 := hid (HT10.out.below hbzy (Nat.le_refl _))
    have BW_18 := hid (BW_17.out.trans (hbzy.mono BW_17.out.size))
    clear HA_17 HB_17 HK_17 Rg1_17 Ro_17 Rx_17 T9_17 HT10 BW_17
    clear hbzy
    clear T9_18 T10_18
    go_wp2_with fail
    refine (Gcd_c xx xy kx ky dx dy gx gy _ (by omega) (by omega) Rx_18.out Ry.out Lx.out Ly.out).mono ?_
    rintro e wgz ⟨xz, kz, dz, gz, erz, rfl, hresz, hcz⟩
    obtain ⟨rfl, hvz⟩ : erz = 0 ∧ vf gz kz = (Nat.gcd (vf gx kx).toNat (vf gy ky).toNat : Nat) := by
      rcases hcz with h | h
      · exact ⟨h.2.2.1, h.2.2.2⟩
      · exact absurd ⟨Fx.out, Fy.out⟩ h.1
    have HVz := hid hvz
    clear hcz hvz
    have hbzz := hresz.bel
    have hkz : kz ≤ 71 := by have := hresz.le; omega
    have hncz := hresz.ncap
    have Rz := hid hresz.rd; have Lz := hid hresz.lm; have Fz := hid hresz.fm
    clear hresz
    have HA_19 := hid (HA_18.out.below hbzz (Nat.le_refl _))
    have HB_19 := hid (HB_18.out.below hbzz (Nat.le_refl _))
    have HK_19 := hid (HK_18.out.below hbzz (Nat.le_refl _))
    have Rg1_19 := hid (Rg1_18.out.below hbzz (Nat.le_refl _))
    have Ro_19 := hid (Ro_18.out.below hbzz (Nat.le_refl _))
    have Rx_19 := hid (Rx_18.out.below hbzz (Nat.le_refl _))
    have Ry_19 := hid (Ry.out.below hbzz (Nat.le_refl _))
    have BW_19 := hid (BW_18.out.trans (hbzz.mono BW_18.out.size))
    clear HA_18 HB_18 HK_18 Rg1_18 Ro_18 Rx_18 Ry BW_18
    clear hbzz
    clear Rx_19 Ry_19
    go_wp2_with fail
    refine (twin_c ko l ck kf _ (by omega) HK_19.out hnk).mono ?_
    rintro e w11 ⟨t11, c11, rfl, hb11, hr11, ho11⟩
    obtain ⟨u11, v11⟩ := own_caps ho11
    have HT11 := hid hr11
    clear hr11 ho11
    have HA_20 := hid (HA_19.out.below hb11 (Nat.le_refl _))
    have HB_20 := hid (HB_19.out.below hb11 (Nat.le_refl _))
    have HK_20 := hid (HK_19.out.below hb11 (Nat.le_refl _))
    have Rg1_20 := hid (Rg1_19.out.below hb11 (Nat.le_refl _))
    have Ro_20 := hid (Ro_19.out.below hb11 (Nat.le_refl _))
    have Rz_20 := hid (Rz.out.below hb11 (Nat.le_refl _))
    have BW_20 := hid (BW_19.out.trans (hb11.mono BW_19.out.size))
    clear HA_19 HB_19 HK_19 Rg1_19 Ro_19 Rz BW_19
    clear hb11
    go_wp2_with fail
    refine (Mul_c xg1 t11 kg1 l dg1 c11 gg1 kf _ (by omega) (by omega) hncg1.1 u11 (by omega) v11 Rg1_20.out HT11.out Lg1.out HLk.out).mono ?_
    rintro e wmt ⟨xt, kt, dt, gt, ert, rfl, hrest, hct⟩
    obtain ⟨rfl, hvt⟩ : ert = 0 ∧ vf gt kt = vf gg1 kg1 * vf kf l := by
      rcases hct with h | h
      · exact ⟨h.2.2.1, h.2.2.2⟩
      · exact absurd ⟨Fg1.out, FK.out⟩ h.1
    have HVt := hid hvt
    clear hct hvt
    have hbzt := hrest.bel
    have hkt : kt ≤ 71 := by have := hrest.le; omega
    have hnct := hrest.ncap
    have Rt := hid hrest.rd; have Lt := hid hrest.lm; have Ft := hid hrest.fm
    clear hrest
    have HA_21 := hid (HA_20.out.below hbzt (Nat.le_refl _))
    have HB_21 := hid (HB_20.out.below hbzt (Nat.le_refl _))
    have HK_21 := hid (HK_20.out.below hbzt (Nat.le_refl _))
    have Rg1_21 := hid (Rg1_20.out.below hbzt (Nat.le_refl _))
    have Ro_21 := hid (Ro_20.out.below hbzt (Nat.le_refl _))
    have Rz_21 := hid (Rz_20.out.below hbzt (Nat.le_refl _))
    have T11_21 := hid (HT11.out.below hbzt (Nat.le_refl _))
    have BW_21 := hid (BW_20.out.trans (hbzt.mono BW_20.out.size))
    clear HA_20 HB_20 HK_20 Rg1_20 Ro_20 Rz_20 HT11 BW_20
    clear hbzt
    clear T11_21 Rg1_21
    have hone : vf go ko2 = 1 := by
      rw [HVo.out]
      exact one_of HQa.out HQb.out HG.out (vf_nonneg La.out) (vf_nonneg Lb.out) (by have := vf_form_ge Lg1.out Fg1.out (by omega); have := pw_pos (kg1 - 1); omega)
    have hbig : vf gz kz = vf gt kt := by
      rw [HVz.out, HVt.out, HVx.out, HVy.out, HG.out]
      exact big_of (vf_nonneg HLa.out) (vf_nonneg HLb.out) (vf_nonneg HLk.out)
    have HOne := hid (show vf go ko2 = vf (fun _ => (1 : Int)) 1 by rw [hone]; simp [vf, pw]); have HBig := hid hbig
    clear hone hbig
    go_wp2_with fail
    refine (same_true xo _ ko2 1 do2 1 go (fun _ => (1 : Int)) _ (by omega) (by omega) (Ro_21.out.below ((Below.refl _ _).alloc (Nat.le_refl _) _) (Nat.le_refl _)) (rd_new1 wmt _ 1) Lo.out (lm_const (by decide) (by decide) 1) Fo.out (.inr (by decide)) HOne.out).mono ?_
    rintro e ws2 ⟨rfl, q2, hq2⟩
    have hbs2 : Below wmt.heap.size wmt ws2 := by rw [hq2]; exact below_drewN ((Below.refl _ _).alloc (Nat.le_refl _) _) _
    have HA_22 := hid (HA_21.out.below hbs2 (Nat.le_refl _))
    have HB_22 := hid (HB_21.out.below hbs2 (Nat.le_refl _))
    have HK_22 := hid (HK_21.out.below hbs2 (Nat.le_refl _))
    have Ro_22 := hid (Ro_21.out.below hbs2 (Nat.le_refl _))
    have Rz_22 := hid (Rz_21.out.below hbs2 (Nat.le_refl _))
    have Rt_22 := hid (Rt.out.below hbs2 (Nat.le_refl _))
    have BW_22 := hid (BW_21.out.trans (hbs2.mono BW_21.out.size))
    clear HA_21 HB_21 HK_21 Ro_21 Rz_21 Rt BW_21
    clear hbs2 hq2
    go_wp2_with fail
    refine (same_true xz xt kz kt dz dt gz gt _ (by omega) (by omega) Rz_22.out Rt_22.out Lz.out Lt.out Fz.out Ft.out HBig.out).mono ?_
    rintro e ws3 ⟨rfl, q3, hq3⟩
    subst hq3
    go_wp2
    go_ret
    exact ⟨rfl, below_drewN BW_22.out q3⟩
  · subst er3
    go_wp2
    go_ret
    exact ⟨rfl, BW_7.out⟩
end Go.Proofs.YtjjbmioicliipabDoor

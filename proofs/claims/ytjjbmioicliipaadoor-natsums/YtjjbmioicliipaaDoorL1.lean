/-
  The walk of the statement NatSums.
-/
import Derived.Test.YtjjbmioicliipaaDoorA2
import Derived.Test.YtjjbmioicliipaaDoorR5
namespace Go.Proofs.YtjjbmioicliipaaDoor
open Go.RowKit

theorem add_agree {F H : Prop} {e1 e2 s : Int} {k1 k2 : Nat} {g1 g2 : Nat → Int} (h1 : F ∧ H ∧ e1 = 0 ∧ vf g1 k1 = s ∨ ¬ (F ∧ H) ∧ e1 = 3 ∧ k1 = 0) (h2 : F ∧ H ∧ e2 = 0 ∧ vf g2 k2 = s ∨ ¬ (F ∧ H) ∧ e2 = 3 ∧ k2 = 0) : e2 = e1 ∧ vf g1 k1 = vf g2 k2 := by
  rcases h1 with ⟨a, b, rfl, c⟩ | ⟨a, rfl, rfl⟩ <;> rcases h2 with ⟨a', b', rfl, c'⟩ | ⟨a', rfl, rfl⟩
  · exact ⟨rfl, c.trans c'.symm⟩
  · exact absurd ⟨a, b⟩ a'
  · exact absurd ⟨a', b'⟩ a
  · exact ⟨rfl, rfl⟩
theorem sub_agree {F H L1 L2 : Prop} {e1 e2 s : Int} {k1 k2 : Nat} {g1 g2 : Nat → Int} (hx : L1 → ¬ L2) (h1 : F ∧ H ∧ L1 ∧ e1 = 0 ∧ vf g1 k1 = s ∨ F ∧ H ∧ L2 ∧ e1 = 1 ∧ k1 = 0 ∨ ¬ (F ∧ H) ∧ e1 = 3 ∧ k1 = 0) (h2 : F ∧ H ∧ L1 ∧ e2 = 0 ∧ vf g2 k2 = s ∨ F ∧ H ∧ L2 ∧ e2 = 1 ∧ k2 = 0 ∨ ¬ (F ∧ H) ∧ e2 = 3 ∧ k2 = 0) : e2 = e1 ∧ vf g1 k1 = vf g2 k2 := by
  rcases h1 with ⟨a, b, l, rfl, c⟩ | ⟨a, b, l, rfl, rfl⟩ | ⟨a, rfl, rfl⟩ <;> rcases h2 with ⟨a', b', l', rfl, c'⟩ | ⟨a', b', l', rfl, rfl⟩ | ⟨a', rfl, rfl⟩
  · exact ⟨rfl, c.trans c'.symm⟩
  · exact absurd l' (hx l)
  · exact absurd ⟨a, b⟩ a'
  · exact absurd l (hx l')
  · exact ⟨rfl, rfl⟩
  · exact absurd ⟨a, b⟩ a'
  · exact absurd ⟨a', b'⟩ a
  · exact absurd ⟨a', b'⟩ a
  · exact ⟨rfl, rfl⟩
theorem ord_inj {c d a b : Int} (h1 : Ord c a b) (h2 : Ord d a b) : c = d := by unfold Ord at h1 h2; omega
theorem cmp_agree {F H : Prop} {e1 e2 c1 c2 a b : Int} (h1 : F ∧ H ∧ e1 = 0 ∧ Ord c1 a b ∨ ¬ (F ∧ H) ∧ e1 = 3 ∧ c1 = 0) (h2 : F ∧ H ∧ e2 = 0 ∧ Ord c2 a b ∨ ¬ (F ∧ H) ∧ e2 = 3 ∧ c2 = 0) : e2 = e1 ∧ c2 = c1 := by
  rcases h1 with ⟨a, b, rfl, c⟩ | ⟨a, rfl, rfl⟩ <;> rcases h2 with ⟨a', b', rfl, c'⟩ | ⟨a', rfl, rfl⟩
  · exact ⟨rfl, ord_inj c' c⟩
  · exact absurd ⟨a, b⟩ a'
  · exact absurd ⟨a', b'⟩ a
  · exact ⟨rfl, rfl⟩

set_option maxRecDepth 100000 in
set_option maxHeartbeats 4000000 in
theorem natSums_c (ao bo : Option Addr) (n m ca cb : Nat) (f h : Nat → Int) (w : World) (hn : n ≤ 9223372036854775807) (hm : m ≤ 9223372036854775807) (hr : Rd .u64 w ao n f) (hs : Rd .u64 w bo m h) (hf : Lm f n) (hh : Lm h m) (hna : ao = none → n = 0 ∧ ca = 0) (hnb : bo = none → m = 0 ∧ cb = 0) (htab : Tab w) :
    Calls Tryd.prog 3 #[.slice ao n ca, .slice bo m cb] w fun e w' => e = .returned (.bool true) ∧ Below w.heap.size w w' := by
  have HLa := hid hf; have HLb := hid hh
  have CW := hid (awake_c w htab)
  clear hf hh htab
  obtain ⟨bf, hbf⟩ : ∃ bf, fmB f n = bf := ⟨_, rfl⟩
  have C1 := hid (fun W hr' => hbf ▸ form_c ao n ca f W (by omega) hr')
  have C2 := hid (fun W hr' => hbf ▸ rform_c ao n ca f W (by omega) hr')
  have hbb : (bf != bf) = false := by simp
  clear hbf
  obtain ⟨bl, hbl⟩ : ∃ bl, decide (n ≤ 60 ∧ m ≤ 60) = bl := ⟨_, rfl⟩
  have C3 := hid (fun W => hbl ▸ light_c ao bo n m ca cb W)
  have HA0 := hid hr; have HB0 := hid hs
  clear hr hs
  cases bl
  · clear hbl
    go_enter Tryd.func3, Tryd.ntmps3
    go_wp2_with fail
    refine CW.out.mono ?_
    rintro e w1 ⟨rfl, hb1⟩
    have HA := hid (HA0.out.below hb1 (Nat.le_refl _))
    go_wp2_with fail
    refine (C1.out _ HA.out).mono ?_
    rintro e w2 ⟨rfl, rfl⟩
    go_wp2_with fail
    refine (C2.out _ HA.out).mono ?_
    rintro e w2 ⟨rfl, rfl⟩
    go_wp2_with fail
    refine (C3.out _).mono ?_
    rintro e w2 ⟨rfl, rfl⟩
    go_wp2
    go_ret
    exact ⟨rfl, hb1⟩
  have hnm : n ≤ 60 ∧ m ≤ 60 := of_decide_eq_true hbl
  obtain ⟨hn60, hm60⟩ := hnm
  clear hbl
  go_enter Tryd.func3, Tryd.ntmps3
  go_wp2_with fail
  refine CW.out.mono ?_
  rintro e w1 ⟨rfl, hb1⟩
  have HA := hid (HA0.out.below hb1 (Nat.le_refl _)); have HB := hid (HB0.out.below hb1 (Nat.le_refl _)); have BW := hid hb1
  clear HA0 HB0 hb1 CW
  go_wp2_with fail
  refine (C1.out _ HA.out).mono ?_
  rintro e w2 ⟨rfl, rfl⟩
  go_wp2_with fail
  refine (C2.out _ HA.out).mono ?_
  rintro e w2 ⟨rfl, rfl⟩
  go_wp2_with fail
  refine (C3.out _).mono ?_
  rintro e w2 ⟨rfl, rfl⟩
  clear C1 C2 C3 hbb
  go_wp2_with fail
  refine (twin_c ao n ca f _ (by omega) HA.out hna).mono ?_
  rintro e wx1 ⟨ta, tca, rfl, hbX, hrtX, _⟩
  have HA2 := hid (HA.out.below hbX (Nat.le_refl _)); have HB2 := hid (HB.out.below hbX (Nat.le_refl _)); have BW2 := hid (BW.out.trans (hbX.mono BW.out.size)); have TA := hid hrtX
  clear HA HB BW hbX hrtX
  go_wp2_with fail
  refine (twin_c bo m cb h _ (by omega) HB2.out hnb).mono ?_
  rintro e wy1 ⟨tb, tcb, rfl, hbY, hrtY, _⟩
  have HA := hid (HA2.out.below hbY (Nat.le_refl _)); have HB := hid (HB2.out.below hbY (Nat.le_refl _)); have BW := hid (BW2.out.trans (hbY.mono BW2.out.size)); have TA2 := hid (TA.out.below hbY (Nat.le_refl _)); have TB := hid hrtY
  clear HA2 HB2 BW2 hbY hrtY TA
  go_wp2_with fail
  refine (Add_c ta tb n m tca tcb f h _ (by omega) (by omega) TA2.out TB.out HLa.out HLb.out).mono ?_
  rintro e wz1 ⟨x1, k1, d1, g1, er1, rfl, hres, hc1⟩
  have hbz := hres.bel
  have HA2 := hid (HA.out.below hbz (Nat.le_refl _)); have HB2 := hid (HB.out.below hbz (Nat.le_refl _)); have BW2 := hid (BW.out.trans (hbz.mono BW.out.size)); have X1 := hid hres.rd; have X1l := hid hres.lm; have X1f := hid hres.fm
  have hk1 : k1 ≤ 61 := by have := hres.le; omega
  have HC1 := hid hc1
  clear HA HB BW hbz TA2 TB hres hc1
  go_wp2_with fail
  refine (docAdd_c ao bo n m ca cb f h _ (by omega) (by omega) HA2.out HB2.out HLa.out HLb.out).mono ?_
  rintro e wd1 ⟨x2, k2, d2, g2, er2, rfl, hans, hc2⟩
  have hbd := hans.bel
  have HA := hid (HA2.out.below hbd (Nat.le_refl _)); have HB := hid (HB2.out.below hbd (Nat.le_refl _)); have BW := hid (BW2.out.trans (hbd.mono BW2.out.size)); have X2 := hid (X1.out.below hbd (Nat.le_refl _)); have Y2 := hid hans.rd; have Y2l := hid hans.lm; have Y2f := hid hans.fm
  have hk2 : k2 ≤ 1048576 := hans.le
  have hag := add_agree HC1.out hc2
  obtain ⟨her, hval⟩ := hag
  subst her
  have hne : (er2 != er2) = false := by simp
  have HVal := hid hval
  clear HA2 HB2 BW2 hbd X1 hans hc2 HC1 hval
  go_wp2_with fail
  refine (same_true x1 x2 k1 k2 d1 d2 g1 g2 _ (by omega) (by omega) X2.out Y2.out X1l.out Y2l.out X1f.out Y2f.out HVal.out).mono ?_
  rintro e ws1 ⟨rfl, q1, hq⟩
  have hbs : Below wd1.heap.size wd1 ws1 := by rw [hq]; exact below_drewN (Below.refl _ _) _
  have HA2 := hid (HA.out.below hbs (Nat.le_refl _)); have HB2 := hid (HB.out.below hbs (Nat.le_refl _)); have BW2 := hid (BW.out.trans (hbs.mono BW.out.size))
  clear HA HB BW hbs hq X2 Y2 X1l Y2l X1f Y2f HVal
  have HA := HA2; have HB := HB2; have BW := BW2
  clear HA2 HB2 BW2
  go_wp2_with fail
  refine (twin_c ao n ca f _ (by omega) HA.out hna).mono ?_
  rintro e wx2 ⟨ta, tca, rfl, hbX, hrtX, _⟩
  have HA2 := hid (HA.out.below hbX (Nat.le_refl _)); have HB2 := hid (HB.out.below hbX (Nat.le_refl _)); have BW2 := hid (BW.out.trans (hbX.mono BW.out.size)); have TA := hid hrtX
  clear HA HB BW hbX hrtX
  go_wp2_with fail
  refine (twin_c bo m cb h _ (by omega) HB2.out hnb).mono ?_
  rintro e wy2 ⟨tb, tcb, rfl, hbY, hrtY, _⟩
  have HA := hid (HA2.out.below hbY (Nat.le_refl _)); have HB := hid (HB2.out.below hbY (Nat.le_refl _)); have BW := hid (BW2.out.trans (hbY.mono BW2.out.size)); have TA2 := hid (TA.out.below hbY (Nat.le_refl _)); have TB := hid hrtY
  clear HA2 HB2 BW2 hbY hrtY TA
  go_wp2_with fail
  refine (Sub_c ta tb n m tca tcb f h _ (by omega) (by omega) TA2.out TB.out HLa.out HLb.out).mono ?_
  rintro e wz2 ⟨x1, k1, d1, g1, er1, rfl, hres, hc1⟩
  have hbz := hres.bel
  have HA2 := hid (HA.out.below hbz (Nat.le_refl _)); have HB2 := hid (HB.out.below hbz (Nat.le_refl _)); have BW2 := hid (BW.out.trans (hbz.mono BW.out.size)); have X1 := hid hres.rd; have X1l := hid hres.lm; have X1f := hid hres.fm
  have hk1 : k1 ≤ 61 := by have := hres.le; omega
  have HC1 := hid hc1
  clear HA HB BW hbz TA2 TB hres hc1
  go_wp2_with fail
  refine (docSub_c ao bo n m ca cb f h _ (by omega) (by omega) HA2.out HB2.out HLa.out HLb.out).mono ?_
  rintro e wd2 ⟨x2, k2, d2, g2, er2, rfl, hans, hc2⟩
  have hbd := hans.bel
  have HA := hid (HA2.out.below hbd (Nat.le_refl _)); have HB := hid (HB2.out.below hbd (Nat.le_refl _)); have BW := hid (BW2.out.trans (hbd.mono BW2.out.size)); have X2 := hid (X1.out.below hbd (Nat.le_refl _)); have Y2 := hid hans.rd; have Y2l := hid hans.lm; have Y2f := hid hans.fm
  have hk2 : k2 ≤ 1048576 := hans.le
  have hag := sub_agree (fun a b => by omega) HC1.out hc2
  obtain ⟨her, hval⟩ := hag
  subst her
  have hne : (er2 != er2) = false := by simp
  have HVal := hid hval
  clear HA2 HB2 BW2 hbd X1 hans hc2 HC1 hval
  go_wp2_with fail
  refine (same_true x1 x2 k1 k2 d1 d2 g1 g2 _ (by omega) (by omega) X2.out Y2.out X1l.out Y2l.out X1f.out Y2f.out HVal.out).mono ?_
  rintro e ws2 ⟨rfl, q2, hq⟩
  have hbs : Below wd2.heap.size wd2 ws2 := by rw [hq]; exact below_drewN (Below.refl _ _) _
  have HA2 := hid (HA.out.below hbs (Nat.le_refl _)); have HB2 := hid (HB.out.below hbs (Nat.le_refl _)); have BW2 := hid (BW.out.trans (hbs.mono BW.out.size))
  clear HA HB BW hbs hq X2 Y2 X1l Y2l X1f Y2f HVal
  have HA := HA2; have HB := HB2; have BW := BW2
  clear HA2 HB2 BW2
  go_wp2_with fail
  refine (twin_c ao n ca f _ (by omega) HA.out hna).mono ?_
  rintro e wx3 ⟨ta, tca, rfl, hbX, hrtX, _⟩
  have HA2 := hid (HA.out.below hbX (Nat.le_refl _)); have HB2 := hid (HB.out.below hbX (Nat.le_refl _)); have BW2 := hid (BW.out.trans (hbX.mono BW.out.size)); have TA := hid hrtX
  clear HA HB BW hbX hrtX
  go_wp2_with fail
  refine (twin_c bo m cb h _ (by omega) HB2.out hnb).mono ?_
  rintro e wy3 ⟨tb, tcb, rfl, hbY, hrtY, _⟩
  have HA := hid (HA2.out.below hbY (Nat.le_refl _)); have HB := hid (HB2.out.below hbY (Nat.le_refl _)); have BW := hid (BW2.out.trans (hbY.mono BW2.out.size)); have TA2 := hid (TA.out.below hbY (Nat.le_refl _)); have TB := hid hrtY
  clear HA2 HB2 BW2 hbY hrtY TA
  go_wp2_with fail
  refine (Cmp_c ta tb n m tca tcb f h _ (by omega) (by omega) TA2.out TB.out HLa.out HLb.out).mono ?_
  rintro e wz3 ⟨⟨q3, hq3⟩, c1, er1, rfl, hc1⟩
  have hbz : Below wy3.heap.size wy3 wz3 := by rw [hq3]; exact below_drewN (Below.refl _ _) _
  have HA2 := hid (HA.out.below hbz (Nat.le_refl _)); have HB2 := hid (HB.out.below hbz (Nat.le_refl _)); have BW2 := hid (BW.out.trans (hbz.mono BW.out.size))
  have HC1 := hid hc1
  clear HA HB BW hbz TA2 TB hc1 hq3
  go_wp2_with fail
  refine (docCmp_c ao bo n m ca cb f h _ (by omega) (by omega) HA2.out HB2.out HLa.out HLb.out).mono ?_
  rintro e wd3 ⟨c2, er2, rfl, hbd, hc2⟩
  have BW := hid (BW2.out.trans (hbd.mono BW2.out.size))
  obtain ⟨her, hcc⟩ := cmp_agree HC1.out hc2
  subst her
  subst hcc
  clear HA2 HB2 BW2 hbd hc2 HC1
  have hee : (er2 == er2) = true := by simp
  have hc22 : (c2 == c2) = true := by simp
  go_wp2
  go_ret
  exact ⟨rfl, BW.out⟩
end Go.Proofs.YtjjbmioicliipaaDoor

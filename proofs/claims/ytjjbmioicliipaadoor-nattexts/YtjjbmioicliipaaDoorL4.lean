/-
  The walk of the statement NatTexts.
-/
import Derived.Test.YtjjbmioicliipaaDoorA2
import Derived.Test.YtjjbmioicliipaaDoorY4
namespace Go.Proofs.YtjjbmioicliipaaDoor
open Go.RowKit

theorem own_tg {w base ao n cap f} (h : Own .u64 46 w base (.slice ao n cap) n f) : Tg w ao := fun a ha => by
  subst ha
  obtain ⟨cur, fr, e⟩ := own_tag (show w.ownsRow base 46 1 (.slice (some a) n cap) n _ from h) a.block rfl
  exact ⟨cur, fr, e⟩
theorem own_caps {k e w base ao n cap f} (h : Own k e w base (.slice ao n cap) n f) : n ≤ cap ∧ cap ≤ 9223372036854775807 := by
  obtain ⟨ao', cap', hv, h1, _, h3, _⟩ := h.shape
  cases hv
  unfold maxLen at h3
  exact ⟨h1, by omega⟩
theorem read_agree {L : Nat} {b : Nat → Nat} {k1 k2 : Nat} {g1 g2 : Nat → Int} {e1 e2 : Int} (h1 : ReadAns L b k1 g1 e1) (h2 : ReadAns L b k2 g2 e2) : e2 = e1 ∧ vf g1 k1 = vf g2 k2 := by
  rcases h1 with ⟨a, rfl, rfl⟩ | ⟨a, c, rfl, rfl⟩ | ⟨a, c, rfl, d⟩ <;> rcases h2 with ⟨a', rfl, rfl⟩ | ⟨a', c', rfl, rfl⟩ | ⟨a', c', rfl, d'⟩
  · exact ⟨rfl, rfl⟩
  · omega
  · omega
  · omega
  · exact ⟨rfl, rfl⟩
  · exact absurd c' c
  · omega
  · exact absurd c c'
  · exact ⟨rfl, d.trans d'.symm⟩

set_option maxRecDepth 100000 in
set_option maxHeartbeats 8000000 in
theorem natTexts_c (ao : Option Addr) (n ca : Nat) (f : Nat → Int) (s : ByteArray) (w : World) (hn : n ≤ 9223372036854775807) (hr : Rd .u64 w ao n f) (hf : Lm f n) (hna : ao = none → n = 0 ∧ ca = 0) (hss : s.size ≤ 9223372036854775807) (htab : Tab w) :
    Calls Tryd.prog 5 #[.slice ao n ca, .string s] w fun e w' => e = .returned (.bool true) ∧ Below w.heap.size w w' := by
  have HLa := hid hf
  have CW := hid (awake_c w htab)
  have HT0 := hid htab
  have HA0 := hid hr
  have HSb := hid (show Sb s s.size (fun k => if h : k < s.size then (s[k]'h).toNat else 0) from ⟨rfl, fun k h => by simp [h]⟩)
  clear hf htab hr
  generalize (fun k => if h : k < s.size then (s[k]'h).toNat else 0) = b at HSb
  by_cases hn60 : 60 < n
  · have d1 : decide ((60 : Int) < (n : Int)) = true := by simp; omega
    go_enter Tryd.func5, Tryd.ntmps5
    go_wp2_with fail
    refine CW.out.mono ?_
    rintro e w1 ⟨rfl, hb1⟩
    go_wp2
    go_ret
    exact ⟨rfl, hb1⟩
  have d1 : decide ((60 : Int) < (n : Int)) = false := by simp; omega
  by_cases hl : 3000 < s.size ∧ s.size ≤ 1048576
  · have d2 : decide ((3000 : Int) < (s.size : Int)) = true := by simp; omega
    have d3 : decide ((s.size : Int) ≤ 1048576) = true := by simp; omega
    go_enter Tryd.func5, Tryd.ntmps5
    go_wp2_with fail
    refine CW.out.mono ?_
    rintro e w1 ⟨rfl, hb1⟩
    go_wp2
    go_ret
    exact ⟨rfl, hb1⟩
  go_enter Tryd.func5, Tryd.ntmps5
  go_wp2_with fail
  refine CW.out.mono ?_
  rintro e w1 ⟨rfl, hb1⟩
  have HA := hid (HA0.out.below hb1 (Nat.le_refl _)); have BW := hid hb1; have HT := hid (HT0.out.below hb1 HT0.out.lt)
  clear HA0 hb1 CW HT0
  go_upto_region 3 with fail
  go_cut [25] from 13 to 24 (fun v wx => v = .bool false ∧ wx = w1)
  case first =>
    by_cases h3 : 3000 < s.size
    · have d2 : decide ((3000 : Int) < (s.size : Int)) = true := by simp; omega
      have d3 : decide ((s.size : Int) ≤ 1048576) = false := by simp; omega
      go_wp2
      go_meet
      exact ⟨rfl, rfl⟩
    · have d2 : decide ((3000 : Int) < (s.size : Int)) = false := by simp; omega
      go_wp2
      go_meet
      exact ⟨rfl, rfl⟩
  case rest =>
  obtain ⟨rfl, rfl⟩ := hcut
  go_wp2_with fail
  refine (twin_c ao n ca f _ (by omega) HA.out hna).mono ?_
  rintro e wx1 ⟨ta, tca, rfl, hbX, hrtX, hown⟩
  obtain ⟨hc1, hc2⟩ := own_caps hown
  have HA2 := hid (HA.out.below hbX (Nat.le_refl _)); have BW2 := hid (BW.out.trans (hbX.mono BW.out.size)); have TA := hid hrtX; have HTg := hid (own_tg hown); have HT2 := hid (HT.out.below hbX HT.out.lt)
  clear HA BW hbX hrtX hown HT
  go_wp2_with fail
  refine (TextAll_c ta n tca f _ (by omega) TA.out HTg.out HLa.out HT2.out hc1 hc2).mono ?_
  rintro e wz1 ⟨rfl, hbz⟩
  have HA := hid (HA2.out.below hbz (Nat.le_refl _)); have BW := hid (BW2.out.trans (hbz.mono BW2.out.size))
  clear HA2 BW2 hbz TA HTg HT2
  go_wp2_with fail
  refine (docText_c ao n ca f _ (by omega) HA.out HLa.out).mono ?_
  rintro e wd1 ⟨rfl, hbd⟩
  have BW2 := hid (BW.out.trans (hbd.mono BW.out.size))
  clear HA BW hbd
  generalize txt f n = T at *
  generalize ter f n = E at *
  have hT : (T.toList == T.toList) = true := by simp
  have hE : (E != E) = false := by simp
  go_wp2_with fail
  refine (Read_c s s.size b _ HSb.out).mono ?_
  rintro e wr1 ⟨x1, k1, e1, g1, er1, rfl, hres, hc1'⟩
  have hbz := hres.bel
  have BW := hid (BW2.out.trans (hbz.mono BW2.out.size)); have X1 := hid hres.rd; have X1l := hid hres.lm; have X1f := hid hres.fm
  have hk1 : k1 ≤ 4294967296 := hres.le
  have HC1 := hid hc1'
  clear BW2 hbz hres hc1'
  go_wp2_with fail
  refine (docRead_c s s.size b _ HSb.out).mono ?_
  rintro e wr2 ⟨x2, k2, e2, g2, er2, rfl, hans, hc2'⟩
  have hbd := hans.bel
  have BW2 := hid (BW.out.trans (hbd.mono BW.out.size)); have X2 := hid (X1.out.below hbd (Nat.le_refl _)); have Y2 := hid hans.rd; have Y2l := hid hans.lm; have Y2f := hid hans.fm
  have hk2 : k2 ≤ 1048576 := hans.le
  obtain ⟨her, hval⟩ := read_agree HC1.out hc2'
  subst her
  have hne : (er2 == er2) = true := by simp
  have HVal := hid hval
  clear BW hbd X1 hans hc2' HC1 hval
  go_wp2_with fail
  refine (same_true x1 x2 k1 k2 e1 e2 g1 g2 _ (by omega) (by omega) X2.out Y2.out X1l.out Y2l.out X1f.out Y2f.out HVal.out).mono ?_
  rintro e ws1 ⟨rfl, q1, hq⟩
  subst hq
  go_wp2
  go_ret
  exact ⟨rfl, below_drewN BW2.out q1⟩
end Go.Proofs.YtjjbmioicliipaaDoor

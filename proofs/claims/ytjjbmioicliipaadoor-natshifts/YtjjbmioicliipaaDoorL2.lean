/-
  The walk of the statement NatShifts.
-/
import Derived.Test.YtjjbmioicliipaaDoorA2
import Derived.Test.YtjjbmioicliipaaDoorS2
namespace Go.Proofs.YtjjbmioicliipaaDoor
open Go.RowKit

theorem shl_agree {F A B : Prop} {e1 e2 s : Int} {k1 k2 : Nat} {g1 g2 : Nat → Int} (hx : A → ¬ B) (h1 : A ∧ e1 = 1 ∧ k1 = 0 ∨ B ∧ ¬ F ∧ e1 = 3 ∧ k1 = 0 ∨ B ∧ F ∧ e1 = 0 ∧ vf g1 k1 = s) (h2 : A ∧ e2 = 1 ∧ k2 = 0 ∨ B ∧ ¬ F ∧ e2 = 3 ∧ k2 = 0 ∨ B ∧ F ∧ e2 = 0 ∧ vf g2 k2 = s) : e2 = e1 ∧ vf g1 k1 = vf g2 k2 := by
  rcases h1 with ⟨a, rfl, rfl⟩ | ⟨b, f, rfl, rfl⟩ | ⟨b, f, rfl, c⟩ <;> rcases h2 with ⟨a', rfl, rfl⟩ | ⟨b', f', rfl, rfl⟩ | ⟨b', f', rfl, c'⟩
  · exact ⟨rfl, rfl⟩
  · exact absurd b' (hx a)
  · exact absurd b' (hx a)
  · exact absurd b (hx a')
  · exact ⟨rfl, rfl⟩
  · exact absurd f' f
  · exact absurd b (hx a')
  · exact absurd f f'
  · exact ⟨rfl, c.trans c'.symm⟩

set_option maxRecDepth 100000 in
set_option maxHeartbeats 4000000 in
theorem natShifts_c (ao : Option Addr) (n ca : Nat) (z : Int) (f : Nat → Int) (w : World) (hn : n ≤ 9223372036854775807) (hr : Rd .u64 w ao n f) (hf : Lm f n) (hna : ao = none → n = 0 ∧ ca = 0) (htab : Tab w) :
    Calls Tryd.prog 4 #[.slice ao n ca, .int .i64 z] w fun e w' => e = .returned (.bool true) ∧ Below w.heap.size w w' := by
  have HLa := hid hf
  have CW := hid (awake_c w htab)
  clear hf htab
  have HA0 := hid hr
  clear hr
  by_cases hn60 : 60 < n
  · go_enter Tryd.func4, Tryd.ntmps4
    go_wp2_with fail
    refine CW.out.mono ?_
    rintro e w1 ⟨rfl, hb1⟩
    go_wp2
    go_ret
    exact ⟨rfl, hb1⟩
  go_enter Tryd.func4, Tryd.ntmps4
  go_wp2_with fail
  refine CW.out.mono ?_
  rintro e w1 ⟨rfl, hb1⟩
  have HA := hid (HA0.out.below hb1 (Nat.le_refl _)); have BW := hid hb1
  clear HA0 hb1 CW
  go_wp2_with fail
  refine (twin_c ao n ca f _ (by omega) HA.out hna).mono ?_
  rintro e wx1 ⟨ta, tca, rfl, hbX, hrtX, _⟩
  have HA2 := hid (HA.out.below hbX (Nat.le_refl _)); have BW2 := hid (BW.out.trans (hbX.mono BW.out.size)); have TA := hid hrtX
  clear HA BW hbX hrtX
  go_wp2_with fail
  refine (Shl_c ta n tca z f _ (by omega) TA.out HLa.out).mono ?_
  rintro e wz1 ⟨x1, k1, d1, g1, er1, rfl, hres, hc1⟩
  have hbz := hres.bel
  have HA := hid (HA2.out.below hbz (Nat.le_refl _)); have BW := hid (BW2.out.trans (hbz.mono BW2.out.size)); have X1 := hid hres.rd; have X1l := hid hres.lm; have X1f := hid hres.fm
  have hk1 : k1 ≤ 1048576 := by have := hres.le; omega
  have HC1 := hid hc1
  clear HA2 BW2 hbz TA hres hc1
  go_wp2_with fail
  refine (docShl_c ao n ca z f _ (by omega) HA.out HLa.out).mono ?_
  rintro e wd1 ⟨x2, k2, d2, g2, er2, rfl, hans, hc2⟩
  have hbd := hans.bel
  have BW2 := hid (BW.out.trans (hbd.mono BW.out.size)); have X2 := hid (X1.out.below hbd (Nat.le_refl _)); have Y2 := hid hans.rd; have Y2l := hid hans.lm; have Y2f := hid hans.fm
  have hk2 : k2 ≤ 1048576 := hans.le
  have hag := shl_agree (A := z < 0 ∨ 65536 < z) (B := 0 ≤ z ∧ z ≤ 65536) (by omega) (by have := HC1.out; simpa only [and_assoc] using this) (by simpa only [and_assoc] using hc2)
  obtain ⟨her, hval⟩ := hag
  subst her
  have hne : (er2 == er2) = true := by simp
  have HVal := hid hval
  clear HA BW hbd X1 hans hc2 HC1 hval
  go_wp2_with fail
  refine (same_true x1 x2 k1 k2 d1 d2 g1 g2 _ (by omega) (by omega) X2.out Y2.out X1l.out Y2l.out X1f.out Y2f.out HVal.out).mono ?_
  rintro e ws1 ⟨rfl, q1, hq⟩
  subst hq
  go_wp2
  go_ret
  exact ⟨rfl, below_drewN BW2.out q1⟩
end Go.Proofs.YtjjbmioicliipaaDoor

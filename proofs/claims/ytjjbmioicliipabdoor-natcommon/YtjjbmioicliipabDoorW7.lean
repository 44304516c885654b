/-
  Walks of package nat: divMod by one limb or of a lesser number, gcd of one limb, and the calls DivMod and Gcd there.
-/
import Derived.Test.YtjjbmioicliipabDoorW6
import Derived.Deep.RegionWith
import Derived.Deep.RegionHeld3
namespace Go.Proofs.YtjjbmioicliipabDoor
open Go.RowKit

theorem lm_const {x : Int} (h0 : 0 ≤ x) (h1 : x < 18446744073709551616) (n : Nat) : Lm (fun _ => x) n := fun _ _ => ⟨h0, h1⟩

set_option maxHeartbeats 1000000 in
/-- gcd where the lesser number (the second) has one limb. -/
theorem gcd_one (ao : Option Addr) (b o n ca cb : Nat) (f : Nat → Int) (x : Nat) (w : World) (hn : n ≤ 8796093022208) (hr : Rd .u64 w ao n f) (hf : Lm f n) (ff : Fm f n) (hx : w.cell? ⟨b, o, none⟩ = some (.int .u64 x)) (x0 : 0 < x) (x1 : x < 18446744073709551616) (hle : (x : Int) ≤ vf f n) :
    Calls Tryd.prog 17 #[.slice ao n ca, .slice (some ⟨b, o, none⟩) 1 cb] w fun e w' => ∃ ao' k cap' f', e = .returned (.slice ao' k cap') ∧ Res 1 w w' ao' k cap' f' ∧ vf f' k = (Nat.gcd x (vf f n % x).toNat : Nat) := by
  have hs : Rd .u64 w (some ⟨b, o, none⟩) 1 (fun _ => (x : Int)) := Rd.mk (fun j hj => by obtain rfl : j = 0 := by omega
                                                                                          exact hx)
  have cc := cmp_c ao (some ⟨b, o, none⟩) n 1 ca cb f (fun _ => (x : Int)) w (by omega) (by omega) hr hs hf (lm_const (by omega) (by omega) 1) ff (.inr (by simp; omega))
  have hv1 : vf (fun _ => (x : Int)) 1 = x := by simp [vf, pw]
  rw [hv1] at cc
  obtain ⟨R, hR⟩ : ∃ R : Nat, (vf f n % x) = R := ⟨(vf f n % x).toNat, by have := Int.emod_nonneg (vf f n) (show (x : Int) ≠ 0 by omega); omega⟩
  have hR1 : (R : Int) < x := by rw [← hR]; exact Int.emod_lt_of_pos _ (by omega)
  have cm := fun w' hr' => modWord_c ao n ca f x w' (by omega) hr' hf (by omega) (by omega)
  rw [hR] at cm
  have cg := fun w' => gcdWord_c x R w' (by omega) (by omega)
  have hgl : Nat.gcd x R < 18446744073709551616 := Nat.lt_of_le_of_lt (Nat.gcd_le_left _ x0) x1
  have hfin : Nat.gcd x (vf f n % x).toNat = Nat.gcd x R := by rw [hR]; simp
  generalize Nat.gcd x R = G at *
  have CC := hid cc; have CM := hid cm; have CG := hid cg; have HFin := hid hfin; have HRd := hid hr
  have HLe := hid hle
  clear cc cm cg hfin hr hs hv1 hR hle hf ff
  go_enter Tryd.func17, Tryd.ntmps17
  go_wp2_with fail
  refine CC.out.mono ?_
  rintro e w1 ⟨⟨q, rfl⟩, c, rfl, ho⟩
  have hc : 0 ≤ c := by have := HLe.out; unfold Ord at ho; omega
  clear ho
  go_wp2
  go_region_with (first | (go_at_call 30; refine (CM.out _ (by exact HRd.out)).mono ?_; rintro e w' ⟨rfl, q1, rfl⟩) | (go_at_call 29; refine (CG.out _).mono ?_; rintro e w' ⟨rfl, q2, rfl⟩) | (go_at_call 28; refine (fromWord_c G _ (by omega) (by omega)).mono ?_; rintro e w' ⟨ao', m', cap', f', rfl, hres, hv'⟩))
  all_goals
    go_wp2
    go_ret
    exact ⟨ao', m', cap', f', rfl, hres.ahead (by repeat (first | exact Below.refl _ _ | refine below_drewN ?_ _ | refine Below.drew ?_)), by rw [HFin.out]; exact hv'⟩

set_option maxHeartbeats 1000000 in
/-- divMod where the divisor has one limb, or is the greater. -/
theorem divMod_small (ao bo : Option Addr) (n m ca cb : Nat) (f h : Nat → Int) (w : World) (hn : n ≤ 8796093022208) (hm : m ≤ 8796093022208) (hr : Rd .u64 w ao n f) (hs : Rd .u64 w bo m h) (hf : Lm f n) (hh : Lm h m) (ff : Fm f n) (fh : Fm h m) (hsm : m = 1 ∨ vf f n < vf h m) :
    Calls Tryd.prog 18 #[.slice ao n ca, .slice bo m cb] w fun e w' => ∃ a1 k1 c1 q a2 k2 c2 r, e = .returned (.tuple #[.slice a1 k1 c1, .slice a2 k2 c2]) ∧ Res n w w' a1 k1 c1 q ∧ Res (n + 1) w w' a2 k2 c2 r ∧ vf f n = vf q k1 * vf h m + vf r k2 ∧ 0 ≤ vf r k2 ∧ vf r k2 < vf h m := by
  have HF := hid hf; have HH := hid hh; have FF := hid ff; have FH := hid fh
  clear hf hh ff fh
  have cc := cmp_c ao bo n m ca cb f h w (by omega) (by omega) hr hs HF.out HH.out FF.out FH.out
  have CC := hid cc
  clear cc
  by_cases hlt : vf f n < vf h m
  · have HLt := hid hlt
    clear hlt hsm
    go_enter Tryd.func18, Tryd.ntmps18
    go_wp2_with fail
    refine CC.out.mono ?_
    rintro e w1 ⟨⟨q, rfl⟩, c, rfl, ho⟩
    have hc : c = -1 := by have := HLt.out; unfold Ord at ho; omega
    subst hc
    clear ho
    go_wp2_with fail
    refine (clone_c ao n ca f _ (by omega) (show Rd .u64 (w.drewN q) ao n f from hr) HF.out).mono ?_
    rintro e w2 ⟨a2, k2, c2, rfl, hres, hk, hv⟩
    have HV := hid hv
    clear hv
    go_wp2
    go_ret2
    have hb := below_drewN (Below.refl w.heap.size w) q
    refine ⟨none, 0, 0, f, a2, k2, c2, f, rfl, Res.nil f (hb.trans hres.bel), (hres.ahead hb).mono (by omega), ?_, ?_, ?_⟩
    · rw [HV.out]; simp [vf]
    · rw [HV.out]; exact vf_nonneg HF.out
    · rw [HV.out]; exact HLt.out
  · obtain rfl : m = 1 := by omega
    have hle : vf h 1 ≤ vf f n := by omega
    have HLe := hid hle
    clear hsm hlt hle
    obtain ⟨b, o, rfl⟩ := hs.at (by omega)
    obtain ⟨x, hx⟩ : ∃ x, h 0 = x := ⟨_, rfl⟩
    have hcell : w.cell? ⟨b, o, none⟩ = some (.int .u64 x) := by rw [← hx]; exact hs.cell (j := 0) (by omega)
    have hx01 := HH.out 0 (by omega)
    have hx2 : x ≠ 0 := by rw [← hx]; rcases FH.out with h | h; omega; exact h
    rw [hx] at hx01
    obtain ⟨x0, x1⟩ := hx01
    have hv1 : vf h 1 = x := by simp [vf, pw, hx]
    have HV1 := hid hv1
    clear hv1 hx
    go_enter Tryd.func18, Tryd.ntmps18
    go_wp2_with fail
    refine CC.out.mono ?_
    rintro e w1 ⟨⟨q, rfl⟩, c, rfl, ho⟩
    have hc : 0 ≤ c := by have := HLe.out; unfold Ord at ho; omega
    clear ho
    go_wp2_with fail
    refine (divWord_c ao n ca f x _ (by omega) (show Rd .u64 (w.drewN q) ao n f from hr) HF.out (by omega) x1).mono ?_
    rintro e w2 ⟨a1, k1, c1, q1, r, rfl, hres, r0, r1, hv⟩
    have HV := hid hv
    clear hv
    go_wp2_with fail
    refine (fromWord_c r w2 r0 (by omega)).mono ?_
    rintro e w3 ⟨a2, k2, c2, q2, rfl, hres2, hv2⟩
    have HV2 := hid hv2
    clear hv2
    go_wp2
    go_ret2
    have hb := below_drewN (Below.refl w.heap.size w) q
    refine ⟨a1, k1, c1, q1, a2, k2, c2, q2, rfl, (hres.later hres2.bel).ahead hb, ((hres2.ahead hres.bel).ahead hb).mono (by omega), ?_, ?_, ?_⟩
    · rw [HV2.out, HV1.out]; exact HV.out
    · rw [HV2.out]; exact r0
    · rw [HV2.out, HV1.out]; exact r1
end Go.Proofs.YtjjbmioicliipabDoor

/-
  Walks of package nat's calls Text, DivMod and Gcd.
-/
import Derived.Test.YtjjbmioicliipabDoorT5
import Derived.Test.YtjjbmioicliipabDoorR1
namespace Go.Proofs.YtjjbmioicliipabDoor
open Go.RowKit

set_option maxHeartbeats 1000000 in
theorem Text_c (ao : Option Addr) (n ca c : Nat) (f : Nat → Int) (V : Nat) (w : World) (hn : n ≤ 4096) (hr : Rd .u64 w ao n f) (htg : Tg w ao) (hf : Lm f n) (ff : Fm f n) (hV : vf f n = V) (htab : Tab w) (hc : c = lev ((64 * n + 62) / 63)) (hca : n ≤ ca) (hcam : ca ≤ 9223372036854775807) (hdiv : ∀ j, j < c → ∀ X, 0 ≤ X → X ≤ (V : Int) → DivOk X (tens j)) :
    Calls Tryd.prog 14 #[.slice ao n ca] w fun e w' => e = .returned (.tuple #[.string ⟨(Lib.decDigits V).toArray⟩, .int .i64 0]) ∧ Below w.heap.size w w' := by
  have c1 := form_c ao n ca f w (by omega) hr
  rw [(fmB_iff f n).2 ff] at c1
  have C1 := hid c1
  have C2 := hid (digits_c ao n ca c f V w hn hr htg hf ff hV htab hc hca hcam hdiv)
  clear c1 hr htg hf ff hV htab hc hdiv
  go_enter Tryd.func14, Tryd.ntmps14
  go_wp2_with fail
  refine C1.out.mono ?_
  rintro e w1 ⟨rfl, rfl⟩
  go_wp2_with fail
  refine C2.out.mono ?_
  rintro e w1 ⟨rfl, hb⟩
  go_wp2
  go_ret2
  exact ⟨rfl, hb⟩

set_option maxHeartbeats 1000000 in
theorem DivMod_of (ao bo : Option Addr) (n m ca cb : Nat) (f h : Nat → Int) (w : World) (hn : n ≤ 8796093022208) (hm : m ≤ 8796093022208) (hr : Rd .u64 w ao n f) (hs : Rd .u64 w bo m h) (hf : Lm f n) (hh : Lm h m) (ff : Fm f n) (fh : Fm h m) (hm0 : 0 < m) (hd : DivOk (vf f n) (vf h m)) :
    Calls Tryd.prog 11 #[.slice ao n ca, .slice bo m cb] w fun e w' => ∃ a1 k1 c1 q a2 k2 c2 r, e = .returned (.tuple #[.slice a1 k1 c1, .slice a2 k2 c2, .int .i64 0]) ∧ Res n w w' a1 k1 c1 q ∧ Res (n + 1) w w' a2 k2 c2 r ∧ vf f n = vf q k1 * vf h m + vf r k2 ∧ 0 ≤ vf r k2 ∧ vf r k2 < vf h m := by
  have c1 := form_c ao n ca f w (by omega) hr
  rw [(fmB_iff f n).2 ff] at c1
  have c2 := form_c bo m cb h w (by omega) hs
  rw [(fmB_iff h m).2 fh] at c2
  have C1 := hid c1; have C2 := hid c2
  have C3 := hid (hd ao bo n m ca cb f h w hn hm hr hs hf hh ff fh rfl rfl)
  have hmi : ((m : Int) == 0) = false := by simp; omega
  clear c1 c2 hr hs hf hh ff fh hd
  go_enter Tryd.func11, Tryd.ntmps11
  go_wp2_with fail
  refine C1.out.mono ?_
  rintro e w1 ⟨rfl, rfl⟩
  go_wp2_with fail
  refine C2.out.mono ?_
  rintro e w1 ⟨rfl, rfl⟩
  go_wp2_with fail
  refine C3.out.mono ?_
  rintro e w1 ⟨a1, k1, c1, q, a2, k2, c2, r, rfl, hrest⟩
  have HR := hid hrest
  clear hrest
  go_wp2
  go_ret3
  exact ⟨a1, k1, c1, q, a2, k2, c2, r, rfl, HR.out⟩

set_option maxHeartbeats 1000000 in
/-- gcd where the first number is the lesser and has one limb. -/
theorem gcd_one_sw (bo : Option Addr) (b o n ca cb : Nat) (f : Nat → Int) (x : Nat) (w : World) (hn : n ≤ 8796093022208) (hr : Rd .u64 w bo n f) (hf : Lm f n) (ff : Fm f n) (hx : w.cell? ⟨b, o, none⟩ = some (.int .u64 x)) (x0 : 0 < x) (x1 : x < 18446744073709551616) (hlt : (x : Int) < vf f n) :
    Calls Tryd.prog 17 #[.slice (some ⟨b, o, none⟩) 1 ca, .slice bo n cb] w fun e w' => ∃ ao' k cap' f', e = .returned (.slice ao' k cap') ∧ Res 1 w w' ao' k cap' f' ∧ vf f' k = (Nat.gcd x (vf f n % x).toNat : Nat) := by
  have hs : Rd .u64 w (some ⟨b, o, none⟩) 1 (fun _ => (x : Int)) := Rd.mk (fun j hj => by obtain rfl : j = 0 := by omega
                                                                                          exact hx)
  have cc := cmp_c (some ⟨b, o, none⟩) bo 1 n ca cb (fun _ => (x : Int)) f w (by omega) (by omega) hs hr (lm_const (by omega) (by omega) 1) hf (.inr (by simp; omega)) ff
  have hv1 : vf (fun _ => (x : Int)) 1 = x := by simp [vf, pw]
  rw [hv1] at cc
  obtain ⟨R, hR⟩ : ∃ R : Nat, (vf f n % x) = R := ⟨(vf f n % x).toNat, by have := Int.emod_nonneg (vf f n) (show (x : Int) ≠ 0 by omega); omega⟩
  have hR1 : (R : Int) < x := by rw [← hR]; exact Int.emod_lt_of_pos _ (by omega)
  have cm := fun w' hr' => modWord_c bo n cb f x w' (by omega) hr' hf (by omega) (by omega)
  rw [hR] at cm
  have cg := fun w' => gcdWord_c x R w' (by omega) (by omega)
  have hgl : Nat.gcd x R < 18446744073709551616 := Nat.lt_of_le_of_lt (Nat.gcd_le_left _ x0) x1
  have hfin : Nat.gcd x (vf f n % x).toNat = Nat.gcd x R := by rw [hR]; simp
  generalize Nat.gcd x R = G at *
  have CC := hid cc; have CM := hid cm; have CG := hid cg; have HFin := hid hfin; have HRd := hid hr
  have HLt := hid hlt
  clear cc cm cg hfin hr hs hv1 hR hlt hf ff
  go_enter Tryd.func17, Tryd.ntmps17
  go_wp2_with fail
  refine CC.out.mono ?_
  rintro e w1 ⟨⟨q, rfl⟩, c, rfl, ho⟩
  have hc : c = -1 := by have := HLt.out; unfold Ord at ho; omega
  subst hc
  clear ho
  go_wp2
  go_region_with (first | (go_at_call 30; refine (CM.out _ (by exact HRd.out)).mono ?_; rintro e w' ⟨rfl, q1, rfl⟩) | (go_at_call 29; refine (CG.out _).mono ?_; rintro e w' ⟨rfl, q2, rfl⟩) | (go_at_call 28; refine (fromWord_c G _ (by omega) (by omega)).mono ?_; rintro e w' ⟨ao', m', cap', f', rfl, hres, hv'⟩))
  all_goals
    go_wp2
    go_ret
    exact ⟨ao', m', cap', f', rfl, hres.ahead (by repeat (first | exact Below.refl _ _ | refine below_drewN ?_ _ | refine Below.drew ?_)), by rw [HFin.out]; exact hv'⟩

/-- Gcd(12, 18), as the statements' own look asks it. -/
theorem Gcd_sw (bo : Option Addr) (b o n ca cb : Nat) (f : Nat → Int) (x : Nat) (w : World) (hn : n ≤ 8796093022208) (hr : Rd .u64 w bo n f) (hf : Lm f n) (ff : Fm f n) (hx : w.cell? ⟨b, o, none⟩ = some (.int .u64 x)) (x0 : 0 < x) (x1 : x < 18446744073709551616) (hlt : (x : Int) < vf f n) :
    Calls Tryd.prog 7 #[.slice (some ⟨b, o, none⟩) 1 ca, .slice bo n cb] w fun e w' => ∃ ao' k cap' f', e = .returned (.tuple #[.slice ao' k cap', .int .i64 0]) ∧ Res 1 w w' ao' k cap' f' ∧ vf f' k = (Nat.gcd x (vf f n % x).toNat : Nat) := by
  have hs : Rd .u64 w (some ⟨b, o, none⟩) 1 (fun _ => (x : Int)) := Rd.mk (fun j hj => by obtain rfl : j = 0 := by omega
                                                                                          exact hx)
  have c1 := form_c (some ⟨b, o, none⟩) 1 ca (fun _ => (x : Int)) w (by omega) hs
  rw [(fmB_iff _ 1).2 (.inr (by simp; omega))] at c1
  have c2 := form_c bo n cb f w (by omega) hr
  rw [(fmB_iff f n).2 ff] at c2
  have C1 := hid c1; have C2 := hid c2
  have C3 := hid (gcd_one_sw bo b o n ca cb f x w hn hr hf ff hx x0 x1 hlt)
  clear c1 c2 hr hs hf ff hx hlt
  go_enter Tryd.func7, Tryd.ntmps7
  go_wp2_with fail
  refine C1.out.mono ?_
  rintro e w1 ⟨rfl, rfl⟩
  go_wp2_with fail
  refine C2.out.mono ?_
  rintro e w1 ⟨rfl, rfl⟩
  go_wp2_with fail
  refine C3.out.mono ?_
  rintro e w1 ⟨ao', k, cap', f', rfl, hrest⟩
  have HR := hid hrest
  clear hrest
  go_wp2
  go_ret2
  exact ⟨ao', k, cap', f', rfl, HR.out⟩

/-- Same of two lists of one number. -/
theorem same_true (ao bo : Option Addr) (n m ca cb : Nat) (f g : Nat → Int) (w : World) (hm : n ≤ 140737488355328) (hm' : m ≤ 140737488355328) (hr : Rd .u64 w ao n f) (hs : Rd .u64 w bo m g) (hf : Lm f n) (hg : Lm g m) (ff : Fm f n) (fg : Fm g m) (hv : vf f n = vf g m) :
    Calls Tryd.prog 9 #[.slice ao n ca, .slice bo m cb] w fun e w' => e = .returned (.bool true) ∧ ∃ q, w' = w.drewN q := by
  refine (same_c ao bo n m ca cb f g w hm hm' hr hs).mono ?_
  rintro e w' ⟨hq, b, rfl, hb⟩
  have : b = true := hb.2 (vf_inj hf hg ff fg hv)
  subst this
  exact ⟨rfl, hq⟩
end Go.Proofs.YtjjbmioicliipabDoor

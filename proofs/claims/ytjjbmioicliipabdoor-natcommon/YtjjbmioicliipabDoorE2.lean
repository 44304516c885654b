/-
  The walk of nat's call Gcd, whatever it is handed.
-/
import Derived.Test.YtjjbmioicliipabDoorG7
namespace Go.Proofs.YtjjbmioicliipabDoor
open Go.RowKit

set_option maxHeartbeats 800000 in
theorem Gcd_c (ao bo : Option Addr) (n m ca cb : Nat) (f h : Nat → Int) (w : World) (hn : n ≤ 8796093022207) (hm : m ≤ 8796093022207) (hr : Rd .u64 w ao n f) (hs : Rd .u64 w bo m h) (hf : Lm f n) (hh : Lm h m) :
    Calls Tryd.prog 7 #[.slice ao n ca, .slice bo m cb] w fun e w' => ∃ ao' k cap' f' er, e = .returned (.tuple #[.slice ao' k cap', .int .i64 er]) ∧ Res (max n m + 1) w w' ao' k cap' f' ∧
      (Fm f n ∧ Fm h m ∧ er = 0 ∧ vf f' k = (Nat.gcd (vf f n).toNat (vf h m).toNat : Nat) ∨ ¬ (Fm f n ∧ Fm h m) ∧ er = 3 ∧ k = 0) := by
  have HF := (show Hid (Lm f n) from hf)
  have HH := (show Hid (Lm h m) from hh)
  clear hf hh
  cases hfa : fmB f n
  · have c1 := fun w' hr' => form_c ao n ca f w' (by omega) hr'
    rw [hfa] at c1
    have HN := hid (nfm_of hfa)
    have C1 := hid c1
    clear c1 hfa
    go_enter Tryd.func7, Tryd.ntmps7
    go_wp2_with (go_at_call 10; refine (C1.out _ hr).mono ?_; rintro e w' ⟨rfl, rfl⟩)
    go_ret2
    exact ⟨_, _, _, f, _, rfl, Res.nil f (Below.refl _ _), .inr ⟨fun x => HN.out x.1, rfl, rfl⟩⟩
  · have c1 := fun w' hr' => form_c ao n ca f w' (by omega) hr'
    rw [hfa] at c1
    have FA := hid (fm_of hfa)
    have C1 := hid c1
    clear c1 hfa
    cases hfb : fmB h m
    · have c2 := fun w' hr' => form_c bo m cb h w' (by omega) hr'
      rw [hfb] at c2
      have HN := hid (nfm_of hfb)
      have C2 := hid c2
      clear c2 hfb
      go_enter Tryd.func7, Tryd.ntmps7
      go_wp2_with fail
      refine (C1.out _ hr).mono ?_
      rintro e w' ⟨rfl, rfl⟩
      go_wp2_with fail
      refine (C2.out _ hs).mono ?_
      rintro e w' ⟨rfl, rfl⟩
      go_wp2
      go_ret2
      exact ⟨_, _, _, f, _, rfl, Res.nil f (Below.refl _ _), .inr ⟨fun x => HN.out x.2, rfl, rfl⟩⟩
    · have c2 := fun w' hr' => form_c bo m cb h w' (by omega) hr'
      rw [hfb] at c2
      have FB := hid (fm_of hfb)
      have C2 := hid c2
      clear c2 hfb
      go_enter Tryd.func7, Tryd.ntmps7
      go_wp2_with fail
      refine (C1.out _ hr).mono ?_
      rintro e w' ⟨rfl, rfl⟩
      go_wp2_with fail
      refine (C2.out _ hs).mono ?_
      rintro e w' ⟨rfl, rfl⟩
      go_wp2_with fail
      refine (gcd_c ao bo n m ca cb f h _ hn hm hr hs HF.out HH.out FA.out FB.out).mono ?_
      rintro e w' ⟨ao', k, cap', f', rfl, hres, hv⟩
      have HV := hid hv
      clear hv
      go_wp2
      go_ret2
      exact ⟨_, _, _, f', _, rfl, hres, .inl ⟨FA.out, FB.out, rfl, HV.out⟩⟩
end Go.Proofs.YtjjbmioicliipabDoor

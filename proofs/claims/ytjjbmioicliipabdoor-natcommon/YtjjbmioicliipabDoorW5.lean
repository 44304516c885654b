/-
  Walks of package nat's calls Add, Sub, Cmp.
-/
import Derived.Test.YtjjbmioicliipabDoorW4
namespace Go.Proofs.YtjjbmioicliipabDoor
open Go.RowKit

theorem fm_of {f : Nat → Int} {n : Nat} (h : fmB f n = true) : Fm f n := (fmB_iff f n).1 h
theorem nfm_of {f : Nat → Int} {n : Nat} (h : fmB f n = false) : ¬ Fm f n := fun hf => by rw [(fmB_iff f n).2 hf] at h; cases h

set_option maxHeartbeats 800000 in
theorem Add_c (ao bo : Option Addr) (n m ca cb : Nat) (f h : Nat → Int) (w : World) (hn : n ≤ 8796093022208) (hm : m ≤ 8796093022208) (hr : Rd .u64 w ao n f) (hs : Rd .u64 w bo m h) (hf : Lm f n) (hh : Lm h m) :
    Calls Tryd.prog 15 #[.slice ao n ca, .slice bo m cb] w fun e w' => ∃ ao' k cap' f' er, e = .returned (.tuple #[.slice ao' k cap', .int .i64 er]) ∧ Res (max n m + 1) w w' ao' k cap' f' ∧
      (Fm f n ∧ Fm h m ∧ er = 0 ∧ vf f' k = vf f n + vf h m ∨ ¬ (Fm f n ∧ Fm h m) ∧ er = 3 ∧ k = 0) := by
  have HF := (show Hid (Lm f n) from hf)
  have HH := (show Hid (Lm h m) from hh)
  clear hf hh
  cases hfa : fmB f n
  · have c1 := fun w' hr' => form_c ao n ca f w' (by omega) hr'
    rw [hfa] at c1
    have HN := hid (nfm_of hfa)
    have C1 := hid c1
    clear c1 hfa
    go_enter Tryd.func15, Tryd.ntmps15
    go_wp2_with (go_at_call 10; refine (C1.out _ hr).mono ?_; rintro e w' ⟨rfl, rfl⟩)
    go_ret2
    exact ⟨_, _, _, f, _, rfl, Res.nil f (Below.refl _ _), .inr ⟨fun x => HN.out x.1, rfl, rfl⟩⟩
  · have c1 := fun w' hr' => form_c ao n ca f w' (by omega) hr'
    rw [hfa] at c1
    have FA := hid (fm_of hfa)
    have C1 := hid c1
    clear c1 hfa
    cases hfb : fmB h m
    · have c2 := fun w' hr' => form_c bo m cb h w' (by omega) hr'
      rw [hfb] at c2
      have HN := hid (nfm_of hfb)
      have C2 := hid c2
      clear c2 hfb
      go_enter Tryd.func15, Tryd.ntmps15
      go_wp2_with fail
      refine (C1.out _ hr).mono ?_
      rintro e w' ⟨rfl, rfl⟩
      go_wp2_with fail
      refine (C2.out _ hs).mono ?_
      rintro e w' ⟨rfl, rfl⟩
      go_wp2
      go_ret2
      exact ⟨_, _, _, f, _, rfl, Res.nil f (Below.refl _ _), .inr ⟨fun x => HN.out x.2, rfl, rfl⟩⟩
    · have c2 := fun w' hr' => form_c bo m cb h w' (by omega) hr'
      rw [hfb] at c2
      have FB := hid (fm_of hfb)
      have C2 := hid c2
      clear c2 hfb
      go_enter Tryd.func15, Tryd.ntmps15
      go_wp2_with fail
      refine (C1.out _ hr).mono ?_
      rintro e w' ⟨rfl, rfl⟩
      go_wp2_with fail
      refine (C2.out _ hs).mono ?_
      rintro e w' ⟨rfl, rfl⟩
      go_wp2_with fail
      refine (add_c ao bo n m ca cb f h _ hn hm hr hs HF.out HH.out).mono ?_
      rintro e w' ⟨ao', k, cap', f', rfl, hres, hv⟩
      have HV := hid hv
      clear hv
      go_wp2
      go_ret2
      exact ⟨_, _, _, f', _, rfl, hres, .inl ⟨FA.out, FB.out, rfl, HV.out⟩⟩

set_option maxHeartbeats 800000 in
theorem Sub_c (ao bo : Option Addr) (n m ca cb : Nat) (f h : Nat → Int) (w : World) (hn : n ≤ 8796093022208) (hm : m ≤ 8796093022208) (hr : Rd .u64 w ao n f) (hs : Rd .u64 w bo m h) (hf : Lm f n) (hh : Lm h m) :
    Calls Tryd.prog 16 #[.slice ao n ca, .slice bo m cb] w fun e w' => ∃ ao' k cap' f' er, e = .returned (.tuple #[.slice ao' k cap', .int .i64 er]) ∧ Res n w w' ao' k cap' f' ∧
      (Fm f n ∧ Fm h m ∧ vf h m ≤ vf f n ∧ er = 0 ∧ vf f' k = vf f n - vf h m ∨ Fm f n ∧ Fm h m ∧ vf f n < vf h m ∧ er = 1 ∧ k = 0 ∨ ¬ (Fm f n ∧ Fm h m) ∧ er = 3 ∧ k = 0) := by
  have HF := (show Hid (Lm f n) from hf)
  have HH := (show Hid (Lm h m) from hh)
  clear hf hh
  cases hfa : fmB f n
  · have c1 := fun w' hr' => form_c ao n ca f w' (by omega) hr'
    rw [hfa] at c1
    have HN := hid (nfm_of hfa)
    have C1 := hid c1
    clear c1 hfa
    go_enter Tryd.func16, Tryd.ntmps16
    go_wp2_with (go_at_call 10; refine (C1.out _ hr).mono ?_; rintro e w' ⟨rfl, rfl⟩)
    go_ret2
    exact ⟨_, _, _, f, _, rfl, Res.nil f (Below.refl _ _), .inr (.inr ⟨fun x => HN.out x.1, rfl, rfl⟩)⟩
  · have c1 := fun w' hr' => form_c ao n ca f w' (by omega) hr'
    rw [hfa] at c1
    have FA := hid (fm_of hfa)
    have C1 := hid c1
    clear c1 hfa
    cases hfb : fmB h m
    · have c2 := fun w' hr' => form_c bo m cb h w' (by omega) hr'
      rw [hfb] at c2
      have HN := hid (nfm_of hfb)
      have C2 := hid c2
      clear c2 hfb
      go_enter Tryd.func16, Tryd.ntmps16
      go_wp2_with fail
      refine (C1.out _ hr).mono ?_
      rintro e w' ⟨rfl, rfl⟩
      go_wp2_with fail
      refine (C2.out _ hs).mono ?_
      rintro e w' ⟨rfl, rfl⟩
      go_wp2
      go_ret2
      exact ⟨_, _, _, f, _, rfl, Res.nil f (Below.refl _ _), .inr (.inr ⟨fun x => HN.out x.2, rfl, rfl⟩)⟩
    · have c2 := fun w' hr' => form_c bo m cb h w' (by omega) hr'
      rw [hfb] at c2
      have FB := hid (fm_of hfb)
      have C2 := hid c2
      clear c2 hfb
      go_enter Tryd.func16, Tryd.ntmps16
      go_wp2_with fail
      refine (C1.out _ hr).mono ?_
      rintro e w' ⟨rfl, rfl⟩
      go_wp2_with fail
      refine (C2.out _ hs).mono ?_
      rintro e w' ⟨rfl, rfl⟩
      go_wp2_with fail
      refine (cmp_c ao bo n m ca cb f h _ (by omega) (by omega) hr hs HF.out HH.out FA.out FB.out).mono ?_
      rintro e w' ⟨⟨q, rfl⟩, c, rfl, ho⟩
      by_cases hlt : vf f n < vf h m
      · have hc : c = -1 := by unfold Ord at ho; omega
        subst hc
        have HLt := hid hlt
        clear ho hlt
        go_wp2
        go_ret2
        exact ⟨_, _, _, f, _, rfl, Res.nil f (below_drewN (Below.refl _ _) q), .inr (.inl ⟨FA.out, FB.out, HLt.out, rfl, rfl⟩)⟩
      · have hc : 0 ≤ c := by unfold Ord at ho; omega
        have hle : vf h m ≤ vf f n := by omega
        have HLe := hid hle
        clear ho hlt hle
        go_wp2_with fail
        refine (sub_c ao bo n m ca cb f h _ hn (show Rd .u64 (World.drewN _ q) ao n f from hr) (show Rd .u64 (World.drewN _ q) bo m h from hs) HF.out HH.out FB.out HLe.out).mono ?_
        rintro e w' ⟨ao', k, cap', f', rfl, hres, hv⟩
        have HV := hid hv
        clear hv
        go_wp2
        go_ret2
        exact ⟨_, _, _, f', _, rfl, hres.ahead (below_drewN (Below.refl _ _) q), .inl ⟨FA.out, FB.out, HLe.out, rfl, HV.out⟩⟩
end Go.Proofs.YtjjbmioicliipabDoor

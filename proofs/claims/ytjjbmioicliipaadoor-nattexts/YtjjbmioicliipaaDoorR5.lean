/-
  Walks of the document's reference for nat: the calls DocAdd, DocSub, DocCmp.
-/
import Derived.Test.YtjjbmioicliipaaDoorR4
namespace Go.Proofs.YtjjbmioicliipaaDoor
open Go.RowKit

/-- A number that the reference answers: it can be read; in form. -/
structure Ans (C : Nat) (w w' : World) (ao : Option Addr) (n : Nat) (f : Nat → Int) : Prop where
  bel : Below w.heap.size w w'
  rd : Rd .u64 w' ao n f
  le : n ≤ C
  lm : Lm f n
  fm : Fm f n

theorem and_fm {f h : Nat → Int} {n m : Nat} (e : (fmB f n && fmB h m) = true) : Fm f n ∧ Fm h m := by
  simp only [Bool.and_eq_true] at e
  exact ⟨fm_of e.1, fm_of e.2⟩
theorem nand_fm {f h : Nat → Int} {n m : Nat} (e : (fmB f n && fmB h m) = false) : ¬ (Fm f n ∧ Fm h m) := fun ⟨a, b⟩ => by
  rw [(fmB_iff f n).2 a, (fmB_iff h m).2 b] at e
  cases e

set_option maxHeartbeats 1000000 in
theorem docAdd_c (ao bo : Option Addr) (n m ca cb : Nat) (f h : Nat → Int) (w : World) (hn : n ≤ 65536) (hm : m ≤ 65536) (hr : Rd .u64 w ao n f) (hs : Rd .u64 w bo m h) (hf : Lm f n) (hh : Lm h m) :
    Calls Tryd.prog 14 #[.slice ao n ca, .slice bo m cb] w fun e w' => ∃ ao' k cap' f' er, e = .returned (.tuple #[.slice ao' k cap', .int .i64 er]) ∧ Ans 1048576 w w' ao' k f' ∧
      (Fm f n ∧ Fm h m ∧ er = 0 ∧ vf f' k = vf f n + vf h m ∨ ¬ (Fm f n ∧ Fm h m) ∧ er = 3 ∧ k = 0) := by
  have HF := hid hf
  have HH := hid hh
  clear hf hh
  have c1 := two_c ao bo n m ca cb f h w (by omega) (by omega) hr hs
  cases hfa : (fmB f n && fmB h m)
  · rw [hfa] at c1
    have C1 := hid c1
    have HN := hid (nand_fm hfa)
    clear c1 hfa
    go_enter Tryd.func14, Tryd.ntmps14
    go_wp2_with (go_at_call 31; refine C1.out.mono ?_; rintro e w' ⟨rfl, rfl⟩)
    go_ret2
    exact ⟨_, _, _, f, _, rfl, ⟨Below.refl _ _, Rd.zero, by omega, fun j hj => by omega, .inl rfl⟩, .inr ⟨HN.out, rfl, rfl⟩⟩
  · rw [hfa] at c1
    have C1 := hid c1
    have HY := hid (and_fm hfa)
    clear c1 hfa
    go_enter Tryd.func14, Tryd.ntmps14
    go_wp2_with fail
    refine C1.out.mono ?_
    rintro e w' ⟨rfl, rfl⟩
    go_wp2_with fail
    refine (from_c ao n ca f _ (by omega) hr HF.out).mono ?_
    rintro e w1 ⟨a1, n1, c1, rfl, hb1, hr1, hl1, _, hd1, hf1, hv1⟩
    have hs1 := hs.below hb1 (Nat.le_refl _)
    have HD1 := hid hd1; have HF1 := hid hf1; have HV1 := hid hv1
    clear hd1 hf1 hv1
    go_wp2_with fail
    refine (from_c bo m cb h w1 (by omega) hs1 HH.out).mono ?_
    rintro e w2 ⟨a2, n2, c2, rfl, hb2, hr2, hl2, _, hd2, hf2, hv2⟩
    have hr1' := hr1.below hb2 (Nat.le_refl _)
    have HD2 := hid hd2; have HF2 := hid hf2; have HV2 := hid hv2
    clear hd2 hf2 hv2
    go_wp2_with fail
    refine (radd_c a1 a2 n1 n2 c1 c2 (dig f) (dig h) w2 (by omega) (by omega) hr1' hr2 HD1.out HD2.out).mono ?_
    rintro e w3 ⟨a3, n3, c3, D, rfl, hb3, hr3, hl3, hd3, hf3, hv3⟩
    have HD3 := hid hd3; have HF3 := hid hf3; have HV3 := hid hv3
    clear hd3 hf3 hv3
    go_wp2_with fail
    refine (to_c a3 n3 c3 D w3 (by omega) hr3 HD3.out HF3.out).mono ?_
    rintro e w4 ⟨a4, n4, c4, F4, rfl, hb4, hr4, hl4, hd4, hf4, hv4⟩
    have HD4 := hid hd4; have HF4 := hid hf4; have HV4 := hid hv4
    clear hd4 hf4 hv4
    go_wp2
    go_ret2
    have hb := hb1.trans ((hb2.mono hb1.size).trans ((hb3.mono (Nat.le_trans hb1.size hb2.size)).trans (hb4.mono (Nat.le_trans hb1.size (Nat.le_trans hb2.size hb3.size)))))
    exact ⟨_, _, _, F4, _, rfl, ⟨hb, hr4, by omega, HD4.out, HF4.out⟩, .inl ⟨HY.out.1, HY.out.2, rfl, by rw [HV4.out, HV3.out, HV1.out, HV2.out]⟩⟩

set_option maxHeartbeats 1000000 in
theorem docCmp_c (ao bo : Option Addr) (n m ca cb : Nat) (f h : Nat → Int) (w : World) (hn : n ≤ 65536) (hm : m ≤ 65536) (hr : Rd .u64 w ao n f) (hs : Rd .u64 w bo m h) (hf : Lm f n) (hh : Lm h m) :
    Calls Tryd.prog 19 #[.slice ao n ca, .slice bo m cb] w fun e w' => ∃ c er, e = .returned (.tuple #[.int .i64 c, .int .i64 er]) ∧ Below w.heap.size w w' ∧
      (Fm f n ∧ Fm h m ∧ er = 0 ∧ Ord c (vf f n) (vf h m) ∨ ¬ (Fm f n ∧ Fm h m) ∧ er = 3 ∧ c = 0) := by
  have HF := hid hf
  have HH := hid hh
  clear hf hh
  have c1 := two_c ao bo n m ca cb f h w (by omega) (by omega) hr hs
  cases hfa : (fmB f n && fmB h m)
  · rw [hfa] at c1
    have C1 := hid c1
    have HN := hid (nand_fm hfa)
    clear c1 hfa
    go_enter Tryd.func19, Tryd.ntmps19
    go_wp2_with (go_at_call 31; refine C1.out.mono ?_; rintro e w' ⟨rfl, rfl⟩)
    go_ret2
    exact ⟨_, _, rfl, Below.refl _ _, .inr ⟨HN.out, rfl, rfl⟩⟩
  · rw [hfa] at c1
    have C1 := hid c1
    have HY := hid (and_fm hfa)
    clear c1 hfa
    go_enter Tryd.func19, Tryd.ntmps19
    go_wp2_with fail
    refine C1.out.mono ?_
    rintro e w' ⟨rfl, rfl⟩
    go_wp2_with fail
    refine (from_c ao n ca f _ (by omega) hr HF.out).mono ?_
    rintro e w1 ⟨a1, n1, c1, rfl, hb1, hr1, hl1, _, hd1, hf1, hv1⟩
    have hs1 := hs.below hb1 (Nat.le_refl _)
    have HD1 := hid hd1; have HF1 := hid hf1; have HV1 := hid hv1
    clear hd1 hf1 hv1
    go_wp2_with fail
    refine (from_c bo m cb h w1 (by omega) hs1 HH.out).mono ?_
    rintro e w2 ⟨a2, n2, c2, rfl, hb2, hr2, hl2, _, hd2, hf2, hv2⟩
    have hr1' := hr1.below hb2 (Nat.le_refl _)
    have HD2 := hid hd2; have HF2 := hid hf2; have HV2 := hid hv2
    clear hd2 hf2 hv2
    go_wp2_with fail
    refine (rcmp_c a1 a2 n1 n2 c1 c2 (dig f) (dig h) w2 (by omega) (by omega) hr1' hr2 HD1.out HD2.out HF1.out HF2.out).mono ?_
    rintro e w3 ⟨⟨q, rfl⟩, c, rfl, ho⟩
    have HO := hid ho
    clear ho
    go_wp2
    go_ret2
    exact ⟨_, _, rfl, below_drewN (hb1.trans (hb2.mono hb1.size)) q, .inl ⟨HY.out.1, HY.out.2, rfl, by have := HO.out; rw [HV1.out, HV2.out] at this; exact this⟩⟩

set_option maxHeartbeats 1000000 in
theorem docSub_c (ao bo : Option Addr) (n m ca cb : Nat) (f h : Nat → Int) (w : World) (hn : n ≤ 65536) (hm : m ≤ 65536) (hr : Rd .u64 w ao n f) (hs : Rd .u64 w bo m h) (hf : Lm f n) (hh : Lm h m) :
    Calls Tryd.prog 17 #[.slice ao n ca, .slice bo m cb] w fun e w' => ∃ ao' k cap' f' er, e = .returned (.tuple #[.slice ao' k cap', .int .i64 er]) ∧ Ans 1048576 w w' ao' k f' ∧
      (Fm f n ∧ Fm h m ∧ vf h m ≤ vf f n ∧ er = 0 ∧ vf f' k = vf f n - vf h m ∨ Fm f n ∧ Fm h m ∧ vf f n < vf h m ∧ er = 1 ∧ k = 0 ∨ ¬ (Fm f n ∧ Fm h m) ∧ er = 3 ∧ k = 0) := by
  have HF := hid hf
  have HH := hid hh
  clear hf hh
  have c1 := two_c ao bo n m ca cb f h w (by omega) (by omega) hr hs
  cases hfa : (fmB f n && fmB h m)
  · rw [hfa] at c1
    have C1 := hid c1
    have HN := hid (nand_fm hfa)
    clear c1 hfa
    go_enter Tryd.func17, Tryd.ntmps17
    go_wp2_with (go_at_call 31; refine C1.out.mono ?_; rintro e w' ⟨rfl, rfl⟩)
    go_ret2
    exact ⟨_, _, _, f, _, rfl, ⟨Below.refl _ _, Rd.zero, by omega, fun j hj => by omega, .inl rfl⟩, .inr (.inr ⟨HN.out, rfl, rfl⟩)⟩
  · rw [hfa] at c1
    have C1 := hid c1
    have HY := hid (and_fm hfa)
    clear c1 hfa
    go_enter Tryd.func17, Tryd.ntmps17
    go_wp2_with fail
    refine C1.out.mono ?_
    rintro e w' ⟨rfl, rfl⟩
    go_wp2_with fail
    refine (from_c ao n ca f _ (by omega) hr HF.out).mono ?_
    rintro e w1 ⟨a1, n1, c1, rfl, hb1, hr1, hl1, _, hd1, hf1, hv1⟩
    have hra1 := hr.below hb1 (Nat.le_refl _)
    have hs1 := hs.below hb1 (Nat.le_refl _)
    have HD1 := hid hd1; have HF1 := hid hf1; have HV1 := hid hv1
    clear hd1 hf1 hv1
    go_wp2_with fail
    refine (from_c bo m cb h w1 (by omega) hs1 HH.out).mono ?_
    rintro e w2 ⟨a2, n2, c2, rfl, hb2, hr2, hl2, _, hd2, hf2, hv2⟩
    have hr1' := hr1.below hb2 (Nat.le_refl _)
    have hra2 := hra1.below hb2 (Nat.le_refl _)
    have hs2 := hs1.below hb2 (Nat.le_refl _)
    have HD2 := hid hd2; have HF2 := hid hf2; have HV2 := hid hv2
    clear hd2 hf2 hv2
    go_wp2_with fail
    refine (rcmp_c a1 a2 n1 n2 c1 c2 (dig f) (dig h) w2 (by omega) (by omega) hr1' hr2 HD1.out HD2.out HF1.out HF2.out).mono ?_
    rintro e w3 ⟨⟨q, hq⟩, c, rfl, ho⟩
    rw [HV1.out, HV2.out] at ho
    have hb3 : Below w2.heap.size w2 w3 := by rw [hq]; exact below_drewN (Below.refl _ _) q
    have hra3 := hra2.below hb3 (Nat.le_refl _)
    have hs3 := hs2.below hb3 (Nat.le_refl _)
    clear hq
    have hb := hb1.trans ((hb2.mono hb1.size).trans (hb3.mono (Nat.le_trans hb1.size hb2.size)))
    by_cases hlt : vf f n < vf h m
    · have hc : c = -1 := by unfold Ord at ho; omega
      subst hc
      have HLt := hid hlt
      clear ho hlt
      go_wp2
      go_ret2
      exact ⟨_, _, _, f, _, rfl, ⟨hb, Rd.zero, by omega, fun j hj => by omega, .inl rfl⟩, .inr (.inl ⟨HY.out.1, HY.out.2, HLt.out, rfl, rfl⟩)⟩
    · have hc : 0 ≤ c := by unfold Ord at ho; omega
      have hle : vf h m ≤ vf f n := by omega
      have HLe := hid hle
      clear ho hlt hle
      go_wp2_with fail
      refine (from_c ao n ca f w3 (by omega) hra3 HF.out).mono ?_
      rintro e w4 ⟨a4, n4, c4, rfl, hb4, hr4, hl4, _, hd4, hf4, hv4⟩
      have hs4 := hs3.below hb4 (Nat.le_refl _)
      have HD4 := hid hd4; have HF4 := hid hf4; have HV4 := hid hv4
      clear hd4 hf4 hv4
      go_wp2_with fail
      refine (from_c bo m cb h w4 (by omega) hs4 HH.out).mono ?_
      rintro e w5 ⟨a5, n5, c5, rfl, hb5, hr5, hl5, _, hd5, hf5, hv5⟩
      have hr4' := hr4.below hb5 (Nat.le_refl _)
      have HD5 := hid hd5; have HF5 := hid hf5; have HV5 := hid hv5
      clear hd5 hf5 hv5
      have hle2 : vd (dig h) n5 ≤ vd (dig f) n4 := by rw [HV4.out, HV5.out]; exact HLe.out
      have HLe2 := hid hle2
      clear hle2
      have hnn : n5 ≤ n4 := vd_len HD5.out HD4.out HF5.out HLe2.out
      go_wp2_with fail
      refine (rsub_c a4 a5 n4 n5 c4 c5 (dig f) (dig h) w5 (by omega) (by omega) hnn hr4' hr5 HD4.out HD5.out HLe2.out).mono ?_
      rintro e w6 ⟨a6, n6, c6, D, rfl, hb6, hr6, hl6, hd6, hf6, hv6⟩
      have HD6 := hid hd6; have HF6 := hid hf6; have HV6 := hid hv6
      clear hd6 hf6 hv6
      go_wp2_with fail
      refine (to_c a6 n6 c6 D w6 (by omega) hr6 HD6.out HF6.out).mono ?_
      rintro e w7 ⟨a7, n7, c7, F7, rfl, hb7, hr7, hl7, hd7, hf7, hv7⟩
      have HD7 := hid hd7; have HF7 := hid hf7; have HV7 := hid hv7
      clear hd7 hf7 hv7
      go_wp2
      go_ret2
      have s3 := hb.size; have s4 := hb4.size; have s5 := hb5.size; have s6 := hb6.size
      have hball := hb.trans ((hb4.mono (by omega)).trans ((hb5.mono (by omega)).trans ((hb6.mono (by omega)).trans (hb7.mono (by omega)))))
      exact ⟨_, _, _, F7, _, rfl, ⟨hball, hr7, by omega, HD7.out, HF7.out⟩, .inl ⟨HY.out.1, HY.out.2, HLe.out, rfl, by rw [HV7.out, HV6.out, HV4.out, HV5.out]⟩⟩
end Go.Proofs.YtjjbmioicliipaaDoor

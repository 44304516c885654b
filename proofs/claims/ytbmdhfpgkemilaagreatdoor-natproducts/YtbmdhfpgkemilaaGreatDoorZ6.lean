/-
  Walks of the document's reference for nat: DocMul, DocDivMod, DocGcd. The walk of the statement NatProducts.
-/
import Derived.Test.YtbmdhfpgkemilaaGreatDoorZ5
import Derived.Test.YtbmdhfpgkemilaaGreatDoorZ3
namespace Go.Proofs.YtbmdhfpgkemilaaGreatDoor
open Go.RowKit

theorem fromD_c {w : World} {ao : Option Addr} {n cap : Nat} {f : Nat → Int} (hn : n ≤ 4096) (hr : Rd .u64 w ao n f) (hf : Lm f n) :
    Calls Tryz.prog 51 #[.slice ao n cap] w fun e w' => ∃ z k c d, e = .returned (.slice z k c) ∧ Below w.heap.size w w' ∧ Hid (k ≤ 2 * n ∧ Dn w' z k d (vf f n).toNat) :=
  (from_c ao n cap f w (by omega) hr hf).mono (fun _ _ ⟨z, k, c, h1, h2, h3, h4, _, h5, h6, h7⟩ => ⟨z, k, c, _, h1, h2, h4, h3, h5, h6, by rw [h7]; have := vf_nonneg hf; omega⟩)
theorem toL_c {w : World} {z : Option Addr} {k c : Nat} {d : Nat → Int} {V : Nat} (h : Dn w z k d V) (hk : k ≤ 65536) :
    Calls Tryz.prog 49 #[.slice z k c] w fun e w' => ∃ x n c' f, e = .returned (.slice x n c') ∧ Below w.heap.size w w' ∧ Hid (n ≤ k ∧ Rd .u64 w' x n f ∧ Lm f n ∧ Fm f n ∧ vf f n = V) :=
  (to_c z k c d w (by omega) h.rd h.dg h.fm).mono (fun _ _ ⟨x, n, c', f, h1, h2, h3, h4, h5, h6, h7⟩ => ⟨x, n, c', f, h1, h2, h4, h3, h5, h6, by rw [h7, h.val]⟩)

set_option maxHeartbeats 1000000 in
theorem docMul_c (ao bo : Option Addr) (n m ca cb : Nat) (f h : Nat → Int) (w : World) (hn : n ≤ 1000) (hm : m ≤ 1000) (hr : Rd .u64 w ao n f) (hs : Rd .u64 w bo m h) (hf : Lm f n) (hh : Lm h m) :
    Calls Tryz.prog 12 #[.slice ao n ca, .slice bo m cb] w fun e w' => ∃ ao' k cap' f' er, e = .returned (.tuple #[.slice ao' k cap', .int .i64 er]) ∧ Ans 1048576 w w' ao' k f' ∧
      (Fm f n ∧ Fm h m ∧ er = 0 ∧ vf f' k = vf f n * vf h m ∨ ¬ (Fm f n ∧ Fm h m) ∧ er = 3 ∧ k = 0) := by
  have HF := hid hf
  have HH := hid hh
  clear hf hh
  have c1 := two_c ao bo n m ca cb f h w (by omega) (by omega) hr hs
  cases hfa : (fmB f n && fmB h m)
  · rw [hfa] at c1
    have C1 := hid c1
    have HN := hid (nand_fm hfa)
    clear c1 hfa
    go_enter Tryz.func12, Tryz.ntmps12
    go_wp2_with (go_at_call 48; refine C1.out.mono ?_; rintro e w' ⟨rfl, rfl⟩)
    go_ret2
    exact ⟨_, _, _, f, _, rfl, ⟨Below.refl _ _, Rd.zero, by omega, fun j hj => by omega, .inl rfl⟩, .inr ⟨HN.out, rfl, rfl⟩⟩
  · rw [hfa] at c1
    have C1 := hid c1
    have HY := hid (and_fm hfa)
    have HR := hid hr; have HS := hid hs
    clear c1 hfa hr hs
    go_enter Tryz.func12, Tryz.ntmps12
    go_wp2_with fail
    refine C1.out.mono ?_
    rintro e w' ⟨rfl, rfl⟩
    go_wp2_with fail
    refine (fromD_c (by omega) HR.out HF.out).mono ?_
    rintro e w1 ⟨z1, k1, c1, d1, rfl, hb1, H1⟩
    have HB1 := hid hb1; have hk1 := H1.out.1
    clear hb1
    go_wp2_with fail
    refine (fromD_c (by omega) (HS.out.below HB1.out (Nat.le_refl _)) HH.out).mono ?_
    rintro e w2 ⟨z2, k2, c2, d2, rfl, hb2, H2⟩
    have HB2 := hid hb2; have hk2 := H2.out.1
    clear hb2
    go_wp2_with fail
    refine (dMul_c (H1.out.2.below HB2.out) H2.out.2 (by omega) (by omega)).mono ?_
    rintro e w3 ⟨z3, k3, c3, d3, rfl, hb3, H3⟩
    have HB3 := hid hb3; have hk3 := H3.out.1
    clear hb3
    go_wp2_with fail
    refine (toL_c H3.out.2 (by omega)).mono ?_
    rintro e w4 ⟨z4, k4, c4, f4, rfl, hb4, H4⟩
    have HB4 := hid hb4; have hk4 := H4.out.1
    clear hb4
    go_wp2
    go_ret2
    refine ⟨_, k4, _, f4, _, rfl, ⟨HB1.out.trans ((HB2.out.trans ((HB3.out.trans (HB4.out.mono HB3.out.size)).mono HB2.out.size)).mono HB1.out.size), H4.out.2.1, by omega, H4.out.2.2.1, H4.out.2.2.2.1⟩, .inl ⟨HY.out.1, HY.out.2, rfl, ?_⟩⟩
    rw [H4.out.2.2.2.2]
    have a1 := vf_nonneg HF.out; have a2 := vf_nonneg HH.out
    push_cast
    rw [Int.toNat_of_nonneg a1, Int.toNat_of_nonneg a2]

set_option maxHeartbeats 1000000 in
theorem docGcd_c (ao bo : Option Addr) (n m ca cb : Nat) (f h : Nat → Int) (w : World) (hn : n ≤ 1000) (hm : m ≤ 1000) (hr : Rd .u64 w ao n f) (hs : Rd .u64 w bo m h) (hf : Lm f n) (hh : Lm h m) :
    Calls Tryz.prog 17 #[.slice ao n ca, .slice bo m cb] w fun e w' => ∃ ao' k cap' f' er, e = .returned (.tuple #[.slice ao' k cap', .int .i64 er]) ∧ Ans 1048576 w w' ao' k f' ∧
      (Fm f n ∧ Fm h m ∧ er = 0 ∧ vf f' k = (Nat.gcd (vf f n).toNat (vf h m).toNat : Nat) ∨ ¬ (Fm f n ∧ Fm h m) ∧ er = 3 ∧ k = 0) := by
  have HF := hid hf
  have HH := hid hh
  clear hf hh
  have c1 := two_c ao bo n m ca cb f h w (by omega) (by omega) hr hs
  cases hfa : (fmB f n && fmB h m)
  · rw [hfa] at c1
    have C1 := hid c1
    have HN := hid (nand_fm hfa)
    clear c1 hfa
    go_enter Tryz.func17, Tryz.ntmps17
    go_wp2_with (go_at_call 48; refine C1.out.mono ?_; rintro e w' ⟨rfl, rfl⟩)
    go_ret2
    exact ⟨_, _, _, f, _, rfl, ⟨Below.refl _ _, Rd.zero, by omega, fun j hj => by omega, .inl rfl⟩, .inr ⟨HN.out, rfl, rfl⟩⟩
  · rw [hfa] at c1
    have C1 := hid c1
    have HY := hid (and_fm hfa)
    have HR := hid hr; have HS := hid hs
    clear c1 hfa hr hs
    go_enter Tryz.func17, Tryz.ntmps17
    go_wp2_with fail
    refine C1.out.mono ?_
    rintro e w' ⟨rfl, rfl⟩
    go_wp2_with fail
    refine (fromD_c (by omega) HR.out HF.out).mono ?_
    rintro e w1 ⟨z1, k1, c1, d1, rfl, hb1, H1⟩
    have HB1 := hid hb1; have hk1 := H1.out.1
    clear hb1
    go_wp2_with fail
    refine (fromD_c (by omega) (HS.out.below HB1.out (Nat.le_refl _)) HH.out).mono ?_
    rintro e w2 ⟨z2, k2, c2, d2, rfl, hb2, H2⟩
    have HB2 := hid hb2; have hk2 := H2.out.1
    clear hb2
    go_wp2_with fail
    refine (rgcd_c (H1.out.2.below HB2.out) H2.out.2 (by omega) (by omega)).mono ?_
    rintro e w3 ⟨z3, k3, c3, d3, rfl, hb3, H3⟩
    have HB3 := hid hb3; have hk3 := H3.out.1
    clear hb3
    go_wp2_with fail
    refine (toL_c H3.out.2 (by omega)).mono ?_
    rintro e w4 ⟨z4, k4, c4, f4, rfl, hb4, H4⟩
    have HB4 := hid hb4; have hk4 := H4.out.1
    clear hb4
    go_wp2
    go_ret2
    exact ⟨_, k4, _, f4, _, rfl, ⟨HB1.out.trans ((HB2.out.trans ((HB3.out.trans (HB4.out.mono HB3.out.size)).mono HB2.out.size)).mono HB1.out.size), H4.out.2.1, by omega, H4.out.2.2.1, H4.out.2.2.2.1⟩, .inl ⟨HY.out.1, HY.out.2, rfl, H4.out.2.2.2.2⟩⟩

set_option maxHeartbeats 1000000 in
theorem docDiv_c (ao bo : Option Addr) (n m ca cb : Nat) (f h : Nat → Int) (w : World) (hn : n ≤ 1000) (hm : m ≤ 1000) (hr : Rd .u64 w ao n f) (hs : Rd .u64 w bo m h) (hf : Lm f n) (hh : Lm h m) :
    Calls Tryz.prog 15 #[.slice ao n ca, .slice bo m cb] w fun e w' => ∃ a1 k1 c1 q a2 k2 c2 r er, e = .returned (.tuple #[.slice a1 k1 c1, .slice a2 k2 c2, .int .i64 er]) ∧ Ans 1048576 w w' a1 k1 q ∧ Ans 1048576 w w' a2 k2 r ∧ DivAns n m f h k1 k2 q r er := by
  have HF := hid hf
  have HH := hid hh
  clear hf hh
  have c1 := two_c ao bo n m ca cb f h w (by omega) (by omega) hr hs
  cases hfa : (fmB f n && fmB h m)
  · rw [hfa] at c1
    have C1 := hid c1
    have HN := hid (nand_fm hfa)
    clear c1 hfa
    go_enter Tryz.func15, Tryz.ntmps15
    go_wp2_with (go_at_call 48; refine C1.out.mono ?_; rintro e w' ⟨rfl, rfl⟩)
    go_ret3
    exact ⟨_, _, _, f, _, _, _, f, _, rfl, ⟨Below.refl _ _, Rd.zero, by omega, fun j hj => by omega, .inl rfl⟩, ⟨Below.refl _ _, Rd.zero, by omega, fun j hj => by omega, .inl rfl⟩, .inr (.inr ⟨HN.out, rfl, rfl, rfl⟩)⟩
  · rw [hfa] at c1
    have C1 := hid c1
    have HY := hid (and_fm hfa)
    have HR := hid hr; have HS := hid hs
    clear c1 hfa hr hs
    by_cases hm0 : m = 0
    · subst hm0
      go_enter Tryz.func15, Tryz.ntmps15
      go_wp2_with fail
      refine C1.out.mono ?_
      rintro e w' ⟨rfl, rfl⟩
      go_wp2
      go_ret3
      exact ⟨_, _, _, f, _, _, _, f, _, rfl, ⟨Below.refl _ _, Rd.zero, by omega, fun j hj => by omega, .inl rfl⟩, ⟨Below.refl _ _, Rd.zero, by omega, fun j hj => by omega, .inl rfl⟩, .inr (.inl ⟨HY.out.1, HY.out.2, rfl, rfl, rfl, rfl⟩)⟩
    have hmd : ((m : Int) == 0) = false := by simp; omega
    have hpos := vf_form_ge HH.out HY.out.2 (by omega)
    have hp2 := pw_pos (m - 1)
    have HP := hid (show 0 < (vf h m).toNat by omega)
    clear hpos hp2
    go_enter Tryz.func15, Tryz.ntmps15
    go_wp2_with fail
    refine C1.out.mono ?_
    rintro e w' ⟨rfl, rfl⟩
    go_wp2_with fail
    refine (fromD_c (by omega) HR.out HF.out).mono ?_
    rintro e w1 ⟨z1, k1, c1, d1, rfl, hb1, H1⟩
    have HB1 := hid hb1; have hk1 := H1.out.1
    clear hb1
    go_wp2_with fail
    refine (fromD_c (by omega) (HS.out.below HB1.out (Nat.le_refl _)) HH.out).mono ?_
    rintro e w2 ⟨z2, k2, c2, d2, rfl, hb2, H2⟩
    have HB2 := hid hb2; have hk2 := H2.out.1
    clear hb2
    go_wp2_with fail
    refine (rdiv_c (H1.out.2.below HB2.out) H2.out.2 (by omega) (by omega) HP.out).mono ?_
    rintro e w3 ⟨z3, k3, c3, d3, y3, m3, e3, g3, rfl, hb3, H3⟩
    have HB3 := hid hb3; have hk3 := H3.out.1; have hm3 := H3.out.2.1
    clear hb3
    go_wp2_with fail
    refine (toL_c H3.out.2.2.1 (by omega)).mono ?_
    rintro e w4 ⟨z4, k4, c4, f4, rfl, hb4, H4⟩
    have HB4 := hid hb4; have hk4 := H4.out.1
    clear hb4
    go_wp2_with fail
    refine (toL_c (H3.out.2.2.2.below HB4.out) (by omega)).mono ?_
    rintro e w5 ⟨z5, k5, c5, f5, rfl, hb5, H5⟩
    have HB5 := hid hb5; have hk5 := H5.out.1
    clear hb5
    go_wp2
    go_ret3
    have hb : Below w'.heap.size w' w5 := HB1.out.trans ((HB2.out.trans ((HB3.out.trans ((HB4.out.trans (HB5.out.mono HB4.out.size)).mono HB3.out.size)).mono HB2.out.size)).mono HB1.out.size)
    refine ⟨_, k4, _, f4, _, k5, _, f5, _, rfl, ⟨hb, H4.out.2.1.below HB5.out (Nat.le_refl _), by omega, H4.out.2.2.1, H4.out.2.2.2.1⟩, ⟨hb, H5.out.2.1, by omega, H5.out.2.2.1, H5.out.2.2.2.1⟩, .inl ⟨HY.out.1, HY.out.2, by omega, rfl, ?_, ?_, ?_⟩⟩
    · rw [H4.out.2.2.2.2, H5.out.2.2.2.2]
      have a1 := vf_nonneg HF.out; have a2 := vf_nonneg HH.out
      have := Nat.div_add_mod (vf f n).toNat (vf h m).toNat
      have e := congrArg (fun x : Nat => (x : Int)) this
      simp only [Int.natCast_add, Int.natCast_mul] at e
      rw [Int.toNat_of_nonneg a1, Int.toNat_of_nonneg a2] at e
      rw [Int.mul_comm]; exact e.symm
    · rw [H5.out.2.2.2.2]; omega
    · rw [H5.out.2.2.2.2]
      have := Nat.mod_lt (vf f n).toNat HP.out
      omega
end Go.Proofs.YtbmdhfpgkemilaaGreatDoor
namespace Go.Proofs.YtbmdhfpgkemilaaGreatDoor
open Go.RowKit

theorem own_cap {k e w base a n c f} (h : Own k e w base (.slice a n c) n f) : n ≤ c ∧ c ≤ 9223372036854775807 := by
  obtain ⟨ao, cap, hv, h1, _, h3, _, _⟩ := h.shape
  cases hv
  exact ⟨h1, by unfold maxLen at h3; omega⟩
theorem div_one {a b q r q' r' : Int} (h : a = q * b + r) (h0 : 0 ≤ r) (h1 : r < b) (k : a = q' * b + r') (k0 : 0 ≤ r') (k1 : r' < b) : q = q' ∧ r = r' := by
  have e : (q - q') * b = r' - r := by rw [Int.sub_mul]; omega
  have hb : 0 < b := by omega
  have hq : q - q' = 0 := by
    rcases Int.lt_trichotomy (q - q') 0 with h | h | h
    · have := Int.mul_le_mul_of_nonneg_right (show q - q' ≤ -1 by omega) (Int.le_of_lt hb); omega
    · exact h
    · have := Int.mul_le_mul_of_nonneg_right (show 1 ≤ q - q' by omega) (Int.le_of_lt hb); omega
  rw [hq, Int.zero_mul] at e
  omega
theorem div_agree {n m k1 k2 j1 j2 : Nat} {f h q r s t : Nat → Int} {e1 e2 : Int} (h1 : DivAns n m f h k1 k2 q r e1) (h2 : DivAns n m f h j1 j2 s t e2) : e2 = e1 ∧ vf q k1 = vf s j1 ∧ vf r k2 = vf t j2 := by
  rcases h1 with ⟨a, b, c, rfl, d, e, g⟩ | ⟨a, b, c, rfl, rfl, rfl⟩ | ⟨a, rfl, rfl, rfl⟩ <;> rcases h2 with ⟨a', b', c', rfl, d', e', g'⟩ | ⟨a', b', c', rfl, rfl, rfl⟩ | ⟨a', rfl, rfl, rfl⟩
  · exact ⟨rfl, div_one d e g d' e' g'⟩
  · omega
  · exact absurd ⟨a, b⟩ a'
  · omega
  · exact ⟨rfl, rfl, rfl⟩
  · exact absurd ⟨a, b⟩ a'
  · exact absurd ⟨a', b'⟩ a
  · exact absurd ⟨a', b'⟩ a
  · exact ⟨rfl, rfl, rfl⟩

set_option maxRecDepth 100000 in
set_option maxHeartbeats 4000000 in
theorem natProducts_c (ao bo : Option Addr) (n m ca cb : Nat) (f h : Nat → Int) (w : World) (hn : n ≤ 9223372036854775807) (hm : m ≤ 9223372036854775807) (hr : Rd .u64 w ao n f) (hs : Rd .u64 w bo m h) (hf : Lm f n) (hh : Lm h m) (hna : ao = none → n = 0 ∧ ca = 0) (hnb : bo = none → m = 0 ∧ cb = 0) (htab : Tab w) :
    Calls Tryz.prog 3 #[.slice ao n ca, .slice bo m cb] w fun e w' => e = .returned (.bool true) ∧ Below w.heap.size w w' := by
  have HLa := hid hf; have HLb := hid hh
  have CW := hid (awake_c w htab)
  clear hf hh htab
  obtain ⟨bl, hbl⟩ : ∃ bl, decide (n ≤ 60 ∧ m ≤ 60) = bl := ⟨_, rfl⟩
  have C3 := hid (fun W => hbl ▸ light_c ao bo n m ca cb W)
  have HA0 := hid hr; have HB0 := hid hs
  clear hr hs
  cases bl
  · clear hbl
    go_enter Tryz.func3, Tryz.ntmps3
    go_wp2_with fail
    refine CW.out.mono ?_
    rintro e w1 ⟨rfl, hb1⟩
    go_wp2_with fail
    refine (C3.out _).mono ?_
    rintro e w2 ⟨rfl, rfl⟩
    go_wp2
    go_ret
    exact ⟨rfl, hb1⟩
  have hnm : n ≤ 60 ∧ m ≤ 60 := of_decide_eq_true hbl
  obtain ⟨hn60, hm60⟩ := hnm
  clear hbl
  go_enter Tryz.func3, Tryz.ntmps3
  go_wp2_with fail
  refine CW.out.mono ?_
  rintro e w1 ⟨rfl, hb1⟩
  have HA := hid (HA0.out.below hb1 (Nat.le_refl _)); have HB := hid (HB0.out.below hb1 (Nat.le_refl _)); have BW := hid hb1
  clear HA0 HB0 hb1 CW
  go_wp2_with fail
  refine (C3.out _).mono ?_
  rintro e w2 ⟨rfl, rfl⟩
  clear C3
  go_wp2_with fail
  refine (twin_c ao n ca f _ (by omega) HA.out hna).mono ?_
  rintro e wx1 ⟨ta, tca, rfl, hbX, hrtX, hcx⟩
  have HA2 := hid (HA.out.below hbX (Nat.le_refl _)); have HB2 := hid (HB.out.below hbX (Nat.le_refl _)); have BW2 := hid (BW.out.trans (hbX.mono BW.out.size)); have TA := hid hrtX; have TAc := hid (own_cap hcx)
  clear HA HB BW hbX hrtX hcx
  go_wp2_with fail
  refine (twin_c bo m cb h _ (by omega) HB2.out hnb).mono ?_
  rintro e wy1 ⟨tb, tcb, rfl, hbY, hrtY, hcy⟩
  have HA := hid (HA2.out.below hbY (Nat.le_refl _)); have HB := hid (HB2.out.below hbY (Nat.le_refl _)); have BW := hid (BW2.out.trans (hbY.mono BW2.out.size)); have TA2 := hid (TA.out.below hbY (Nat.le_refl _)); have TB := hid hrtY; have TBc := hid (own_cap hcy)
  clear HA2 HB2 BW2 hbY hrtY TA hcy
  go_wp2_with fail
  refine (Mul_c ta tb n m tca tcb f h _ (by omega) (by omega) TAc.out.1 TBc.out.1 TAc.out.2 TBc.out.2 TA2.out TB.out HLa.out HLb.out).mono ?_
  rintro e wz1 ⟨x1, k1, d1, g1, er1, rfl, hres, hc1⟩
  have hbz := hres.bel
  have HA2 := hid (HA.out.below hbz (Nat.le_refl _)); have HB2 := hid (HB.out.below hbz (Nat.le_refl _)); have BW2 := hid (BW.out.trans (hbz.mono BW.out.size)); have X1 := hid hres.rd; have X1l := hid hres.lm; have X1f := hid hres.fm
  have hk1 : k1 ≤ 121 := by have := hres.le; omega
  have HC1 := hid hc1
  clear HA HB BW hbz TA2 TB hres hc1 TAc TBc
  go_wp2_with fail
  refine (docMul_c ao bo n m ca cb f h _ (by omega) (by omega) HA2.out HB2.out HLa.out HLb.out).mono ?_
  rintro e wd1 ⟨x2, k2, d2, g2, er2, rfl, hans, hc2⟩
  have hbd := hans.bel
  have HA := hid (HA2.out.below hbd (Nat.le_refl _)); have HB := hid (HB2.out.below hbd (Nat.le_refl _)); have BW := hid (BW2.out.trans (hbd.mono BW2.out.size)); have X2 := hid (X1.out.below hbd (Nat.le_refl _)); have Y2 := hid hans.rd; have Y2l := hid hans.lm; have Y2f := hid hans.fm
  have hk2 : k2 ≤ 1048576 := hans.le
  have hag := add_agree HC1.out hc2
  obtain ⟨her, hval⟩ := hag
  subst her
  have hne : (er2 != er2) = false := by simp
  have hee : (er2 == er2) = true := by simp
  have HVal := hid hval
  clear HA2 HB2 BW2 hbd X1 hans hc2 HC1 hval
  go_wp2_with fail
  refine (same_true x1 x2 k1 k2 d1 d2 g1 g2 _ (by omega) (by omega) X2.out Y2.out X1l.out Y2l.out X1f.out Y2f.out HVal.out).mono ?_
  rintro e ws1 ⟨rfl, q1, hq⟩
  have hbs : Below wd1.heap.size wd1 ws1 := by rw [hq]; exact below_drewN (Below.refl _ _) _
  have HA2 := hid (HA.out.below hbs (Nat.le_refl _)); have HB2 := hid (HB.out.below hbs (Nat.le_refl _)); have BW2 := hid (BW.out.trans (hbs.mono BW.out.size))
  clear HA HB BW hbs hq X2 Y2 X1l Y2l X1f Y2f HVal
  have HA := HA2; have HB := HB2; have BW := BW2
  clear HA2 HB2 BW2
  go_wp2_with fail
  refine (twin_c ao n ca f _ (by omega) HA.out hna).mono ?_
  rintro e wx2 ⟨ta, tca, rfl, hbX, hrtX, hcx⟩
  have HA2 := hid (HA.out.below hbX (Nat.le_refl _)); have HB2 := hid (HB.out.below hbX (Nat.le_refl _)); have BW2 := hid (BW.out.trans (hbX.mono BW.out.size)); have TA := hid hrtX; have TAc := hid (own_cap hcx)
  clear HA HB BW hbX hrtX hcx
  go_wp2_with fail
  refine (twin_c bo m cb h _ (by omega) HB2.out hnb).mono ?_
  rintro e wy2 ⟨tb, tcb, rfl, hbY, hrtY, hcy⟩
  have HA := hid (HA2.out.below hbY (Nat.le_refl _)); have HB := hid (HB2.out.below hbY (Nat.le_refl _)); have BW := hid (BW2.out.trans (hbY.mono BW2.out.size)); have TA2 := hid (TA.out.below hbY (Nat.le_refl _)); have TB := hid hrtY; have TBc := hid (own_cap hcy)
  clear HA2 HB2 BW2 hbY hrtY TA hcy
  go_wp2_with fail
  refine (DivMod_c ta tb n m tca tcb f h _ (by omega) (by omega) TA2.out TB.out HLa.out HLb.out).mono ?_
  rintro e wz2 ⟨x1, k1, d1, g1, x3, k3, d3, g3, er1, rfl, hres, hres3, hc1⟩
  have hbz := hres.bel
  have HA2 := hid (HA.out.below hbz (Nat.le_refl _)); have HB2 := hid (HB.out.below hbz (Nat.le_refl _)); have BW2 := hid (BW.out.trans (hbz.mono BW.out.size)); have X1 := hid hres.rd; have X1l := hid hres.lm; have X1f := hid hres.fm; have X3 := hid hres3.rd; have X3l := hid hres3.lm; have X3f := hid hres3.fm
  have hk1 : k1 ≤ 121 := by have := hres.le; omega
  have hk3 : k3 ≤ 121 := by have := hres3.le; omega
  have HC1 := hid hc1
  clear HA HB BW hbz TA2 TB hres hres3 hc1 TAc TBc
  go_wp2_with fail
  refine (docDiv_c ao bo n m ca cb f h _ (by omega) (by omega) HA2.out HB2.out HLa.out HLb.out).mono ?_
  rintro e wd2 ⟨x2, k2, d2, g2, x4, k4, d4, g4, er2, rfl, hans, hans4, hc2⟩
  have hbd := hans.bel
  have HA := hid (HA2.out.below hbd (Nat.le_refl _)); have HB := hid (HB2.out.below hbd (Nat.le_refl _)); have BW := hid (BW2.out.trans (hbd.mono BW2.out.size)); have X2 := hid (X1.out.below hbd (Nat.le_refl _)); have Y2 := hid hans.rd; have Y2l := hid hans.lm; have Y2f := hid hans.fm; have X4 := hid (X3.out.below hbd (Nat.le_refl _)); have Y4 := hid hans4.rd; have Y4l := hid hans4.lm; have Y4f := hid hans4.fm
  have hk2 : k2 ≤ 1048576 := hans.le
  have hk4 : k4 ≤ 1048576 := hans4.le
  obtain ⟨her, hval, hval4⟩ := div_agree HC1.out hc2
  subst her
  have hne : (er2 != er2) = false := by simp
  have HVal := hid hval; have HVal4 := hid hval4
  clear HA2 HB2 BW2 hbd X1 X3 hans hans4 hc2 HC1 hval hval4
  go_wp2_with fail
  refine (same_true x1 x2 k1 k2 d1 d2 g1 g2 _ (by omega) (by omega) X2.out Y2.out X1l.out Y2l.out X1f.out Y2f.out HVal.out).mono ?_
  rintro e ws2 ⟨rfl, q2, hq⟩
  have hbs : Below wd2.heap.size wd2 ws2 := by rw [hq]; exact below_drewN (Below.refl _ _) _
  have HA2 := hid (HA.out.below hbs (Nat.le_refl _)); have HB2 := hid (HB.out.below hbs (Nat.le_refl _)); have BW2 := hid (BW.out.trans (hbs.mono BW.out.size)); have X5 := hid (X4.out.below hbs (Nat.le_refl _)); have Y5 := hid (Y4.out.below hbs (Nat.le_refl _))
  clear HA HB BW hbs hq X2 Y2 X1l Y2l X1f Y2f HVal X4 Y4
  go_wp2_with fail
  refine (same_true x3 x4 k3 k4 d3 d4 g3 g4 _ (by omega) (by omega) X5.out Y5.out X3l.out Y4l.out X3f.out Y4f.out HVal4.out).mono ?_
  rintro e wt2 ⟨rfl, q3, hq⟩
  have hbs : Below ws2.heap.size ws2 wt2 := by rw [hq]; exact below_drewN (Below.refl _ _) _
  have HA := hid (HA2.out.below hbs (Nat.le_refl _)); have HB := hid (HB2.out.below hbs (Nat.le_refl _)); have BW := hid (BW2.out.trans (hbs.mono BW2.out.size))
  clear HA2 HB2 BW2 hbs hq X5 Y5 X3l Y4l X3f Y4f HVal4
  go_wp2_with fail
  refine (twin_c ao n ca f _ (by omega) HA.out hna).mono ?_
  rintro e wx3 ⟨ta, tca, rfl, hbX, hrtX, hcx⟩
  have HA2 := hid (HA.out.below hbX (Nat.le_refl _)); have HB2 := hid (HB.out.below hbX (Nat.le_refl _)); have BW2 := hid (BW.out.trans (hbX.mono BW.out.size)); have TA := hid hrtX; have TAc := hid (own_cap hcx)
  clear HA HB BW hbX hrtX hcx
  go_wp2_with fail
  refine (twin_c bo m cb h _ (by omega) HB2.out hnb).mono ?_
  rintro e wy3 ⟨tb, tcb, rfl, hbY, hrtY, hcy⟩
  have HA := hid (HA2.out.below hbY (Nat.le_refl _)); have HB := hid (HB2.out.below hbY (Nat.le_refl _)); have BW := hid (BW2.out.trans (hbY.mono BW2.out.size)); have TA2 := hid (TA.out.below hbY (Nat.le_refl _)); have TB := hid hrtY; have TBc := hid (own_cap hcy)
  clear HA2 HB2 BW2 hbY hrtY TA hcy
  go_wp2_with fail
  refine (Gcd_c ta tb n m tca tcb f h _ (by omega) (by omega) TA2.out TB.out HLa.out HLb.out).mono ?_
  rintro e wz3 ⟨x1, k1, d1, g1, er1, rfl, hres, hc1⟩
  have hbz := hres.bel
  have HA2 := hid (HA.out.below hbz (Nat.le_refl _)); have HB2 := hid (HB.out.below hbz (Nat.le_refl _)); have BW2 := hid (BW.out.trans (hbz.mono BW.out.size)); have X1 := hid hres.rd; have X1l := hid hres.lm; have X1f := hid hres.fm
  have hk1 : k1 ≤ 121 := by have := hres.le; omega
  have HC1 := hid hc1
  clear HA HB BW hbz TA2 TB hres hc1 TAc TBc
  go_wp2_with fail
  refine (docGcd_c ao bo n m ca cb f h _ (by omega) (by omega) HA2.out HB2.out HLa.out HLb.out).mono ?_
  rintro e wd3 ⟨x2, k2, d2, g2, er2, rfl, hans, hc2⟩
  have hbd := hans.bel
  have HA := hid (HA2.out.below hbd (Nat.le_refl _)); have HB := hid (HB2.out.below hbd (Nat.le_refl _)); have BW := hid (BW2.out.trans (hbd.mono BW2.out.size)); have X2 := hid (X1.out.below hbd (Nat.le_refl _)); have Y2 := hid hans.rd; have Y2l := hid hans.lm; have Y2f := hid hans.fm
  have hk2 : k2 ≤ 1048576 := hans.le
  have hag := add_agree HC1.out hc2
  obtain ⟨her, hval⟩ := hag
  subst her
  have hne : (er2 != er2) = false := by simp
  have hee : (er2 == er2) = true := by simp
  have HVal := hid hval
  clear HA2 HB2 BW2 hbd X1 hans hc2 HC1 hval
  go_wp2_with fail
  refine (same_true x1 x2 k1 k2 d1 d2 g1 g2 _ (by omega) (by omega) X2.out Y2.out X1l.out Y2l.out X1f.out Y2f.out HVal.out).mono ?_
  rintro e ws3 ⟨rfl, q3, hq⟩
  have hbs : Below wd3.heap.size wd3 ws3 := by rw [hq]; exact below_drewN (Below.refl _ _) _
  have HA2 := hid (HA.out.below hbs (Nat.le_refl _)); have HB2 := hid (HB.out.below hbs (Nat.le_refl _)); have BW2 := hid (BW.out.trans (hbs.mono BW.out.size))
  clear HA HB BW hbs hq X2 Y2 X1l Y2l X1f Y2f HVal
  have HA := HA2; have HB := HB2; have BW := BW2
  clear HA2 HB2 BW2
  go_wp2
  go_ret
  exact ⟨rfl, BW.out⟩
theorem natProducts_k (ao : Option Addr) (n ca : Nat) (f : Nat → Int) (bo : Option Addr) (m cb : Nat) (h : Nat → Int) (w : World) (hn : n ≤ 9223372036854775807) (hr : Rd .u64 w ao n f) (hf : Lm f n) (hna : ao = none → n = 0 ∧ ca = 0) (hm : m ≤ 9223372036854775807) (hs : Rd .u64 w bo m h) (hh : Lm h m) (hnb : bo = none → m = 0 ∧ cb = 0) (htab : Tab w) :
    Calls Tryz.prog 3 #[.slice ao n ca, .slice bo m cb] w fun e w' => e = .returned (.bool true) ∧ Below w.heap.size w w' :=
  natProducts_c ao bo n m ca cb f h w hn hm hr hs hf hh hna hnb htab
end Go.Proofs.YtbmdhfpgkemilaaGreatDoor

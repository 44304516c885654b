/-
  The walk of package nat's addCutProduct: three products in place of four.
-/
import Derived.Test.YtjjbmioicliipabDoorM3
import Derived.Deep.CutRange
import Derived.Deep.RegionHeld3
namespace Go.Proofs.YtjjbmioicliipabDoor
open Go.RowKit

set_option maxRecDepth 100000 in
set_option maxHeartbeats 1000000 in
/-- product: a * b in a list of just n + m limbs. -/
theorem product_c (ao bo : Option Addr) (n m ca cb : Nat) (fa fb : Nat → Int) (w : World) (hap : AddProdC n m ca cb) (hn : n ≤ 4398046511104) (hm : m ≤ 4398046511104) (hra : Rd .u64 w ao n fa) (hrb : Rd .u64 w bo m fb) (ha : Lm fa n) (hb : Lm fb m) :
    Calls Tryd.prog 34 #[.slice ao n ca, .slice bo m cb] w fun e w' => e = .returned (.slice (some ⟨w.heap.size, 0, none⟩) (n + m) (n + m)) ∧ Below w.heap.size w w' ∧
      ∃ f', Blk .u64 32 w' w.heap.size (n + m) f' ∧ Lm f' (n + m) ∧ vf f' (n + m) = vf fa n * vf fb m := by
  have HP := hid hap; have HA := hid ha; have HB := hid hb; have RA := hid hra; have RB := hid hrb
  clear hap ha hb hra hrb
  go_enter Tryd.func34, Tryd.ntmps34
  go_wp2_with (at_make; refine wpList_make_blk .u64 w rfl (.tmp 10) (.tmp 10) 22 rfl 32 8 Tryd.underlying22 Tryd.infoU64 .i64 .i64 ((n : Int) + m) ((n : Int) + m) (n + m) rfl rfl (by omega) (by omega) (by omega) (by unfold maxLen; omega) ?_; intro w1 hb1 hbel1)
  have hz : vf (sh (fun _ => (0 : Int)) 0) (n + m) = 0 := vf_zero (fun _ _ => rfl)
  refine (HP.out w.heap.size 0 (n + m) (n + m) (fun _ => 0) ao bo (n + m) fa fb w1 hb1 (lm_zero _) (by omega) (Nat.le_refl _) (by omega) (RA.out.below hbel1 (Nat.le_refl _)) (RB.out.below hbel1 (Nat.le_refl _)) HA.out HB.out (fun h0 => (RA.out.und h0).off (Nat.le_refl _)) (fun h0 => (RB.out.und h0).off (Nat.le_refl _)) (Nat.le_refl _) (by omega) (by rw [hz]; have := prod_lt HA.out HB.out; omega)).mono ?_
  rintro e w2 ⟨rfl, hon, f2, hb2, hl2, he2, hv2⟩
  rw [hz] at hv2
  have HV2 := hid hv2
  clear hv2 hz
  go_wp2
  go_ret
  exact ⟨rfl, below_only hbel1 hon (Nat.le_refl _) hbel1.size, f2, hb2, hl2, by have := HV2.out; rw [sh_zero] at this; omega⟩

/-- trim of a list in a block, told with its place. -/
theorem trim_at (g N n : Nat) (f : Nat → Int) (w : World) (hb : Blk .u64 32 w g N f) (hn : n ≤ N) (hN : N ≤ 140737488355328) (hf : Lm f N) :
    Calls Tryd.prog 33 #[.slice (some ⟨g, 0, none⟩) n N] w fun e w' => w' = w ∧ ∃ x k c, e = .returned (.slice x k c) ∧ (∀ h, h ≠ g → Off x h) ∧ k ≤ n ∧ Rd .u64 w x k f ∧ Lm f k ∧ Fm f k ∧ vf f k = vf f n := by
  refine (trim_c _ n N f w hn hN (hb.rd0 hn)).mono ?_
  rintro e w2 ⟨rfl, m, hmn, hz, he⟩
  refine ⟨rfl, ?_⟩
  have hv : vf f m = vf f n := trim_val hmn hz
  rcases he with ⟨rfl, rfl⟩ | ⟨hm0, hne, rfl⟩
  · exact ⟨none, 0, 0, rfl, fun _ _ => off_none _, hmn, Rd.zero, fun j hj => by omega, .inl rfl, hv⟩
  · exact ⟨_, m, N, rfl, fun _ h => off_some (Ne.symm h), hmn, hb.rd0 (by omega), hf.mono (by omega), .inr hne, hv⟩

theorem Res.kept {C w w' ao n cap f} (h : Res C w w' ao n cap f) {k x m q} (hr : Rd k w x m q) : Rd k w' x m q := hr.below h.bel (Nat.le_refl _)

theorem mid_len {f : Nat → Int} {k D : Nat} (hl : Lm f k) (hf : Fm f k) (h : vf f k < pw D) : k ≤ D := by
  apply Nat.le_of_not_lt; intro hlt
  have b1 := vf_form_ge hl hf (by omega)
  have b2 := pw_mono (show D ≤ k - 1 by omega)
  omega

/-- The sum, put together. -/
theorem cut_sum (A0 A1 B0 B1 p V0 : Int) : V0 + A0 * B0 + A1 * B1 * (p * p) + ((A0 + A1) * (B0 + B1) - A0 * B0 - A1 * B1) * p = V0 + (A0 + A1 * p) * (B0 + B1 * p) := by grind

set_option maxRecDepth 100000 in
set_option maxHeartbeats 8000000 in
/-- addCutProduct. -/
theorem cut_c (g o cap N : Nat) (f : Nat → Int) (b ob b' ob' n m ca cb D c : Nat) (fa fb : Nat → Int) (w : World) (hb : Blk .u64 32 w g N f) (hf : Lm f N) (ho : o + D ≤ N) (hD : n + m ≤ D) (hN : N ≤ 140737488355328)
    (hra : Rd .u64 w (some ⟨b, ob, none⟩) n fa) (hrb : Rd .u64 w (some ⟨b', ob', none⟩) m fb) (ha : Lm fa n) (hbb : Lm fb m) (hcap : D ≤ cap) (hcm : cap ≤ 140737488355328) (hca : n ≤ ca) (hcam : ca ≤ 9223372036854775807) (hcb : m ≤ cb) (hcbm : cb ≤ 9223372036854775807)
    (hc : c = (n + 1) / 2) (hcm1 : c < m) (hmn : m ≤ n) (hm40 : 40 ≤ m) (hn44 : n ≤ 2199023255552)
    (hih : ∀ k l x y, k + l < n + m → k ≤ x → l ≤ y → x ≤ 9223372036854775807 → y ≤ 9223372036854775807 → AddProdC k l x y) (hroom : vf (sh f o) D + vf fa n * vf fb m < pw D) :
    Calls Tryd.prog 72 #[.slice (some ⟨g, o, none⟩) D cap, .slice (some ⟨b, ob, none⟩) n ca, .slice (some ⟨b', ob', none⟩) m cb] w fun e w' => e = .returned (.tuple #[]) ∧ Only g w w' ∧
      ∃ f', Blk .u64 32 w' g N f' ∧ Lm f' N ∧ (∀ j, j < o ∨ o + D ≤ j → f' j = f j) ∧ vf (sh f' o) D = vf (sh f o) D + vf fa n * vf fb m := by
  have HRm := hid hroom; have HB := hid hb; have HF := hid hf; have HRA := hid hra; have HRB := hid hrb; have HA := hid ha; have HBB := hid hbb; have HIH := hid hih
  have CH := hid (half_c n c n w (by omega) rfl hc)
  have hc1 : c < n := by omega
  have hc2 : 2 * c ≤ n + 1 := by omega
  have hc3 : n ≤ 2 * c := by omega
  clear hroom hb hf hra hrb ha hbb hih hc
  have e1 : (c : Int) ≤ (n : Int) := by omega
  have e2 : (c : Int) ≤ (m : Int) := by omega
  have e3 : (c : Int) ≤ (ca : Int) := by omega
  have e4 : (c : Int) ≤ (cb : Int) := by omega
  have e5 : ¬ (c = ca) := by omega
  have e6 : ¬ (ca = c) := by omega
  have e7 : ¬ (c = cb) := by omega
  have e8 : ¬ (cb = c) := by omega
  have C1 := hid (fun W h1 h2 => product_c (some ⟨b, ob, none⟩) (some ⟨b', ob', none⟩) c c ca cb fa fb W (HIH.out c c ca cb (by omega) (by omega) (by omega) hcam hcbm) (by omega) (by omega) h1 h2 (HA.out.mono (by omega)) (HBB.out.mono (by omega)))
  go_enter Tryd.func72, Tryd.ntmps72
  go_wp2_with fail
  refine CH.out.mono ?_
  rintro e w' ⟨rfl, rfl⟩
  go_upto_region 1 with fail
  go_cut [7] from 13 to 19 (fun s wx => s = .slice (some ⟨w'.heap.size, 0, none⟩) (c + c) (c + c) ∧ Below w'.heap.size w' wx ∧ ∃ fl, Blk .u64 32 wx w'.heap.size (c + c) fl ∧ Lm fl (c + c) ∧ vf fl (c + c) = vf fa c * vf fb c)
  case first =>
    go_region_with (go_at_call 34; refine (C1.out _ (by exact HRA.out.take (by omega)) (by exact HRB.out.take (by omega))).mono ?_; rintro e wl ⟨rfl, hbl, fl, hbl1, hll, hvl⟩; have HVl := hid hvl; clear hvl)
    all_goals
      go_wp2_with fail
      go_meet
      exact ⟨rfl, ⟨hbl.os, hbl.tape, hbl.output, hbl.size, hbl.block⟩, fl, hbl1, hll, HVl.out⟩
  case rest =>
  rename World => w1
  obtain ⟨rfl, hbel1, fl, hbl1, hll, hvl⟩ := hcut
  have HBl1 := hid hbl1; have HLl := hid hll; have HVl := hid hvl; have BE1 := hid hbel1
  have HRA1 := hid (HRA.out.below hbel1 (Nat.le_refl _)); have HRB1 := hid (HRB.out.below hbel1 (Nat.le_refl _))
  clear hbl1 hll hvl C1 CH hbel1
  have C2 := hid (fun W h1 h2 => product_c (some ⟨b, ob + c, none⟩) (some ⟨b', ob' + c, none⟩) (n - c) (m - c) (ca - c) (cb - c) (sh fa c) (sh fb c) W (HIH.out (n - c) (m - c) (ca - c) (cb - c) (by omega) (by omega) (by omega) (by omega) (by omega)) (by omega) (by omega) h1 h2 (HA.out.sh (by omega)) (HBB.out.sh (by omega)))
  go_upto_region 2 with fail
  go_cut [8] from 20 to 26 (fun s wx => s = .slice (some ⟨w1.heap.size, 0, none⟩) (n - c + (m - c)) (n - c + (m - c)) ∧ Below w1.heap.size w1 wx ∧ ∃ fh, Blk .u64 32 wx w1.heap.size (n - c + (m - c)) fh ∧ Lm fh (n - c + (m - c)) ∧ vf fh (n - c + (m - c)) = vf (sh fa c) (n - c) * vf (sh fb c) (m - c))
  case first =>
    go_region_with (go_at_call 34; refine (C2.out _ (by exact HRA1.out.drop (by omega)) (by exact HRB1.out.drop (by omega))).mono ?_; rintro e wh ⟨rfl, hbh, fh, hbh1, hlh, hvh⟩; have HVh := hid hvh; clear hvh)
    all_goals
      go_wp2_with fail
      go_meet
      exact ⟨rfl, ⟨hbh.os, hbh.tape, hbh.output, hbh.size, hbh.block⟩, fh, hbh1, hlh, HVh.out⟩
  case rest =>
  rename World => w2
  obtain ⟨rfl, hbel2, fh, hbh1, hlh, hvh⟩ := hcut
  have HBh2 := hid hbh1; have HLh := hid hlh; have HVh := hid hvh; have BE2 := hid hbel2
  have HRA2 := hid (HRA1.out.below hbel2 (Nat.le_refl _)); have HRB2 := hid (HRB1.out.below hbel2 (Nat.le_refl _))
  have HBl2 := hid (HBl1.out.below hbel2 (HBl1.out.lt))
  have BE12 := hid (BE1.out.trans (hbel2.mono BE1.out.size))
  have zz1 := BE1.out.size
  have zl1 := HBl1.out.lt
  have zh2 := HBh2.out.lt
  clear hbh1 hlh hvh C2 hbel2 HRA1 HRB1 HBl1
  have C3 := hid (fun W h1 h2 => add_c (some ⟨b, ob, none⟩) (some ⟨b, ob + c, none⟩) c (n - c) ca (ca - c) fa (sh fa c) W (by omega) (by omega) h1 h2 (HA.out.mono (by omega)) (HA.out.sh (by omega)))
  have C4 := hid (fun W h1 h2 => add_c (some ⟨b', ob', none⟩) (some ⟨b', ob' + c, none⟩) c (m - c) cb (cb - c) fb (sh fb c) W (by omega) (by omega) h1 h2 (HBB.out.mono (by omega)) (HBB.out.sh (by omega)))
  have hbb' : b = b' ∨ b ≠ b' := by omega
  go_upto_region 3 with fail
  go_cut [9] from 27 to 41 (fun s wx => ∃ G K fm, s = .slice (some ⟨G, 0, none⟩) K K ∧ w2.heap.size ≤ G ∧ Below w2.heap.size w2 wx ∧ K ≤ 4398046511104 ∧ Blk .u64 32 wx G K fm ∧ Lm fm K ∧ vf fm K = (vf fa c + vf (sh fa c) (n - c)) * (vf fb c + vf (sh fb c) (m - c)))
  case first =>
    go_region_with (first | (go_at_call_of 23 ca; refine (C3.out _ (by exact HRA2.out.take (by omega)) (by exact HRA2.out.drop (by omega))).mono ?_; rintro e wa ⟨xa, ka, da, va, rfl, hresa, hvva⟩; have HResA := hid hresa; have HVa := hid hvva; clear hresa hvva) | (go_at_call_of 23 cb; refine (C4.out _ ((HResA.out.kept (by exact HRB2.out)).take (by omega)) ((HResA.out.kept (by exact HRB2.out)).drop (by omega))).mono ?_; rintro e wb ⟨xb, kb, db, vb, rfl, hresb, hvvb⟩; have HResB := hid hresb; have HVb := hid hvvb; clear hresb hvvb) | (go_at_call 34; refine (product_c xa xb ka kb da db va vb _ (HIH.out ka kb da db (by have := HResA.out.le; have := HResB.out.le; omega) HResA.out.ncap.1 HResB.out.ncap.1 (by have := HResA.out.ncap; omega) (by have := HResB.out.ncap; omega)) (by have := HResA.out.le; omega) (by have := HResB.out.le; omega) (HResB.out.kept (by exact HResA.out.rd)) (by exact HResB.out.rd) HResA.out.lm HResB.out.lm).mono ?_; rintro e wm ⟨rfl, hbm, fm, hbm1, hlm, hvm⟩; have HVm := hid hvm; clear hvm))
    all_goals
      go_wp2_with fail
      go_meet
      have A := HResA.out.bel
      have BA : Below w2.heap.size w2 wa := ⟨A.os, A.tape, A.output, A.size, A.block⟩
      have BB := HResB.out.bel
      have y1 := BA.size
      have y2 := BB.size
      refine ⟨wb.heap.size, ka + kb, fm, rfl, by omega, BA.trans ((BB.mono y1).trans (hbm.mono (by omega))), by have := HResA.out.le; have := HResB.out.le; omega, hbm1, hlm, ?_⟩
      rw [HVm.out, HVa.out, HVb.out]
  case rest =>
  rename World => w3
  obtain ⟨G, K, fm, rfl, hG, hbel3, hK, hbm3, hlm, hvm⟩ := hcut
  have zz2 := BE2.out.size
  have zG := hbm3.lt
  obtain ⟨A0, hA0⟩ : ∃ A0, vf fa c = A0 := ⟨_, rfl⟩
  obtain ⟨A1, hA1⟩ : ∃ A1, vf (sh fa c) (n - c) = A1 := ⟨_, rfl⟩
  obtain ⟨B0, hB0⟩ : ∃ B0, vf fb c = B0 := ⟨_, rfl⟩
  obtain ⟨B1, hB1⟩ : ∃ B1, vf (sh fb c) (m - c) = B1 := ⟨_, rfl⟩
  have pA0 : 0 ≤ A0 := by rw [← hA0]; exact vf_nonneg (HA.out.mono (by omega))
  have pA1 : 0 ≤ A1 := by rw [← hA1]; exact vf_nonneg (HA.out.sh (by omega))
  have pB0 : 0 ≤ B0 := by rw [← hB0]; exact vf_nonneg (HBB.out.mono (by omega))
  have pB1 : 0 ≤ B1 := by rw [← hB1]; exact vf_nonneg (HBB.out.sh (by omega))
  have hAn : vf fa n = A0 + A1 * pw c := by rw [← hA0, ← hA1, ← vf_split, show c + (n - c) = n by omega]
  have hBn : vf fb m = B0 + B1 * pw c := by rw [← hB0, ← hB1, ← vf_split, show c + (m - c) = m by omega]
  have hvl := HVl.out
  have hvh := HVh.out
  rw [hA0, hB0] at hvl
  rw [hA1, hB1] at hvh
  rw [hA0, hA1, hB0, hB1] at hvm
  have p00 : 0 ≤ A0 * B0 := Int.mul_nonneg pA0 pB0
  have p11 : 0 ≤ A1 * B1 := Int.mul_nonneg pA1 pB1
  have p01 : 0 ≤ A0 * B1 := Int.mul_nonneg pA0 pB1
  have p10 : 0 ≤ A1 * B0 := Int.mul_nonneg pA1 pB0
  have hmid : (A0 + A1) * (B0 + B1) = A0 * B0 + A1 * B1 + (A0 * B1 + A1 * B0) := by grind
  rw [hmid] at hvm
  have hroom := HRm.out
  rw [hAn, hBn] at hroom
  have hall : vf (sh f o) D + (A0 + A1 * pw c) * (B0 + B1 * pw c) = vf (sh f o) D + A0 * B0 + A1 * B1 * pw (2 * c) + (A0 * B1 + A1 * B0) * pw c := by
    rw [show 2 * c = c + c by omega, pw_add]; grind
  rw [hall] at hroom
  generalize hL00 : A0 * B0 = L00 at *
  generalize hL11 : A1 * B1 = L11 at *
  generalize hLm : A0 * B1 + A1 * B0 = Lm' at *
  have pm : 0 ≤ Lm' := by omega
  clear hmid hA0 hA1 hB0 hB1 pA0 pA1 pB0 pB1 hL00 hL11 hLm p01 p10 C3 C4 HRA2 HRB2 HRA HRB HVl HVh HRm
  have ROOM := hid hroom; have HVl := hid hvl; have HVh := hid hvh; have HVm := hid hvm; have HAll := hid hall; have HAn := hid hAn; have HBn := hid hBn; have HLm3 := hid hlm; have HBm3 := hid hbm3
  have HBl3 := hid (HBl2.out.below hbel3 HBl2.out.lt)
  have HBh3 := hid (HBh2.out.below hbel3 HBh2.out.lt)
  have BE3 := hid (BE12.out.trans (hbel3.mono (by omega)))
  have HB3 := hid (HB.out.below BE3.out HB.out.lt)
  have gG := HB.out.lt
  clear hroom hvl hvh hvm hall hAn hBn hlm hbm3 hbel3 HBl2 HBh2 HB
  generalize hgl : w'.heap.size = gl at *
  generalize hgh : w1.heap.size = gh at *
  go_wp2_with fail
  refine (trim_at gl (c + c) (c + c) fl w3 HBl3.out (Nat.le_refl _) (by omega) HLl.out).mono ?_
  rintro e wt ⟨rfl, x1, k1, d1, rfl, hoff1, hk1, hr1, hl1, hf1, hv1⟩
  have HV1 := hid hv1; have HL1 := hid hl1; have HF1 := hid hf1; have HR1 := hid hr1; have HO1 := hid hoff1
  have hkK : k1 ≤ K := vf_len hl1 HLm3.out hf1 (by rw [hv1, HVl.out, HVm.out]; omega)
  clear hv1 hl1 hf1 hr1 hoff1
  go_wp2_with fail
  refine (subFrom_c G 0 K K K fm x1 k1 d1 fl _ HBm3.out HLm3.out (by omega) (by omega) HR1.out HL1.out (fun _ => HO1.out G (by omega)) hkK (Nat.le_refl _) (by omega) (by rw [sh_zero, HV1.out, HVl.out, HVm.out]; omega)).mono ?_
  rintro e w4 ⟨rfl, hon4, fm1, hb4, hl4, _, hv4⟩
  rw [sh_zero, sh_zero, HV1.out, HVl.out, HVm.out] at hv4
  have HBm4 := hid hb4; have HLm4 := hid hl4; have HVm4 := hid hv4; have ON4 := hid hon4
  have HBl4 := hid (HBl3.out.only hon4 (by omega)); have HBh4 := hid (HBh3.out.only hon4 (by omega)); have HB4 := hid (HB3.out.only hon4 (by omega))
  clear hb4 hl4 hv4 hon4 HR1 HL1 HF1 HO1 HV1 HBl3 HBh3 HB3 HBm3 HLm3 HVm hkK hk1
  go_wp2_with fail
  refine (trim_at gh (n - c + (m - c)) (n - c + (m - c)) fh w4 HBh4.out (Nat.le_refl _) (by omega) HLh.out).mono ?_
  rintro e wt ⟨rfl, x2, k2, d2, rfl, hoff1, hk1, hr1, hl1, hf1, hv1⟩
  have HV1 := hid hv1; have HL1 := hid hl1; have HF1 := hid hf1; have HR1 := hid hr1; have HO1 := hid hoff1
  have hkK : k2 ≤ K := vf_len hl1 HLm4.out hf1 (by rw [hv1, HVh.out, HVm4.out]; omega)
  clear hv1 hl1 hf1 hr1 hoff1
  go_wp2_with fail
  refine (subFrom_c G 0 K K K fm1 x2 k2 d2 fh _ HBm4.out HLm4.out (by omega) (by omega) HR1.out HL1.out (fun _ => HO1.out G (by omega)) hkK (Nat.le_refl _) (by omega) (by rw [sh_zero, HV1.out, HVh.out, HVm4.out]; omega)).mono ?_
  rintro e w5 ⟨rfl, hon5, fm2, hb5, hl5, _, hv5⟩
  rw [sh_zero, sh_zero, HV1.out, HVh.out, HVm4.out] at hv5
  have HBm5 := hid hb5; have HLm5 := hid hl5; have HVm5 := hid (show vf fm2 K = Lm' by omega); have ON5 := hid (ON4.out.trans hon5)
  have HBl5 := hid (HBl4.out.only hon5 (by omega)); have HBh5 := hid (HBh4.out.only hon5 (by omega)); have HB5 := hid (HB4.out.only hon5 (by omega))
  clear hb5 hl5 hv5 hon5 HR1 HL1 HF1 HO1 HV1 HBl4 HBh4 HB4 HBm4 HLm4 HVm4 hkK hk1 ON4
  have p2c := pw_pos (2 * c)
  have pc := pw_pos c
  have q11 : 0 ≤ L11 * pw (2 * c) := Int.mul_nonneg p11 (Int.le_of_lt p2c)
  have qmm : 0 ≤ Lm' * pw c := Int.mul_nonneg pm (Int.le_of_lt pc)
  have Q11 := hid q11; have QM := hid qmm
  clear q11 qmm p2c pc
  go_wp2_with fail
  refine (addTo_c g o D cap N f (some ⟨gl, 0, none⟩) (c + c) (c + c) fl w5 HB5.out HF.out ho hN (HBl5.out.rd0 (Nat.le_refl _)) HLl.out (fun _ => off_some (by omega)) (by omega) hcap hcm (by rw [HVl.out]; have := ROOM.out; have := Q11.out; have := QM.out; omega)).mono ?_
  rintro e w6 ⟨rfl, hon6, f6, hb6, hl6, he6, hv6⟩
  rw [HVl.out] at hv6
  have HB6 := hid hb6; have HL6 := hid hl6; have HE6 := hid he6; have HV6 := hid hv6; have ON6 := hid hon6
  have HBh6 := hid (HBh5.out.only hon6 (by omega)); have HBm6 := hid (HBm5.out.only hon6 (by omega))
  clear hb6 hl6 he6 hv6 hon6 HBh5 HBm5 HBl5 HB5
  have r1 : ¬ (2 * c = cap) := by omega
  have r2 : ¬ (cap = 2 * c) := by omega
  have r3 : (2 * (c : Int)) ≤ (D : Int) := by omega
  have r4 : (2 * (c : Int)).toNat = 2 * c := by omega
  have hroom7 := piece_room (o := o) (i := 2 * c) (D := D) (N := N) (X := L11) (by omega) HL6.out ho HV6.out (by have := ROOM.out; have := QM.out; omega)
  have R7 := hid hroom7
  clear hroom7
  go_wp2_with fail
  refine (addTo_c g (o + 2 * c) (D - 2 * c) (cap - 2 * c) N f6 (some ⟨gh, 0, none⟩) (n - c + (m - c)) (n - c + (m - c)) fh w6 HB6.out HL6.out (by omega) hN (HBh6.out.rd0 (Nat.le_refl _)) HLh.out (fun _ => off_some (by omega)) (by omega) (by omega) (by omega) (by rw [HVh.out]; exact R7.out)).mono ?_
  rintro e w7 ⟨rfl, hon7, f7, hb7, hl7, he7, hv7⟩
  rw [HVh.out] at hv7
  have hv7' := piece_val (V := vf (sh f o) D + L00 + L11 * pw (2 * c)) (by omega) HV6.out he7 hv7 rfl
  have hroom8 := piece_room (o := o) (i := c) (D := D) (N := N) (X := Lm') (by omega) hl7 ho hv7' (by have := ROOM.out; omega)
  have lo8 := vf_nonneg (hl7.sh (o := o + c) (m := D - c) (by omega))
  have R8 := hid hroom8; have HB7 := hid hb7; have HL7 := hid hl7; have HV7 := hid hv7'; have ON7 := hid (ON6.out.trans hon7)
  have HE7 := hid (show ∀ j, j < o ∨ o + D ≤ j → f7 j = f j from fun j hj => (he7 j (by omega)).trans (HE6.out j hj))
  have LO8 := hid lo8
  have HBm7 := hid (HBm6.out.only hon7 (by omega))
  clear hroom8 hb7 hl7 hv7 hv7' he7 hon7 lo8 HB6 HL6 HE6 HV6 ON6 HBh6 HBm6 R7
  have r5 : ¬ (c = cap) := by omega
  have r6 : ¬ (cap = c) := by omega
  have r7 : (c : Int) ≤ (D : Int) := by omega
  go_wp2_with fail
  go_region_with (first | (go_at_call 33; refine (trim_at G K K fm2 _ (by exact HBm7.out) (Nat.le_refl _) (by omega) HLm5.out).mono ?_; rintro e wt ⟨rfl, x3, k3, d3, rfl, hoff3, hk3, hr3, hl3, hf3, hv3⟩; have HV3 := hid hv3; have HL3 := hid hl3; have HF3 := hid hf3; have HR3 := hid hr3; have HO3 := hid hoff3; clear hv3 hl3 hf3 hr3 hoff3) | (go_at_call 41; refine (addTo_c g (o + c) (D - c) (cap - c) N f7 x3 k3 d3 fm2 _ (by exact HB7.out) HL7.out (by omega) hN (by exact HR3.out) HL3.out (fun _ => HO3.out g (by omega)) (by exact mid_len HL3.out HF3.out (by rw [HV3.out, HVm5.out]; have := R8.out; have := LO8.out; omega)) (by omega) (by omega) (by rw [HV3.out, HVm5.out]; exact R8.out)).mono ?_; rintro e w8 ⟨rfl, hon8, f8, hb8, hl8, he8, hv8⟩; have HB8 := hid hb8; have HL8 := hid hl8; have HE8 := hid he8; have HV8 := hid hv8; clear hb8 hl8 he8 hv8))
  all_goals
    go_wp2
    have B5 : Below gl w' w5 := below_only BE3.out ON5.out (by omega) (by have := BE3.out.size; omega)
    rw [← hgl] at B5
    have O7 := (Only.of_below (g := g) B5).trans ON7.out
    have O8 : Only g w7 w8 := ⟨hon8.os, hon8.tape, hon8.output, hon8.size, hon8.block⟩
    have hv8 := HV8.out
    rw [HV3.out, HVm5.out] at hv8
    have hfin := piece_val (V := vf (sh f o) D + L00 + L11 * pw (2 * c) + Lm' * pw c) (by omega) HV7.out HE8.out hv8 rfl
    refine bodyPost_end (v := .tuple #[]) (results_none rfl _ _ _) rfl ⟨rfl, O7.trans O8, f8, HB8.out, HL8.out, fun j hj => (HE8.out j (by omega)).trans (HE7.out j hj), ?_⟩
    rw [hfin, HAn.out, HBn.out, HAll.out]

end Go.Proofs.YtjjbmioicliipabDoor

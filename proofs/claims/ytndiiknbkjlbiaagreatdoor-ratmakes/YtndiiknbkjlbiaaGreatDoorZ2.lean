/-
  The walk of package nat's addCutProduct: three products in place of four. Package nat's products for all lengths. Walks of package nat's texts: levels, bases. Walks of package nat's texts: putDigits. What the rows of this seat share: how an argument that is a list of limbs is opened, the listed tables, a world in which they lie. How an argument that is a whole number is opened. The same words for digits to the base 2^32. Walks of the document's reference for nat: Form, Twin, Same, Low, two, light. Walks of the document's reference for nat: Twin, From, To. Walks of the document's reference for nat: Cmp, Add, Sub on digits, and the calls DocAdd, DocSub, DocCmp.
-/
import Derived.Test.YtndiiknbkjlbiaaGreatDoorZ1
import Derived.Deep.CutRange
import Derived.Deep.RegionHeld3
import Derived.Test.YtndiiknbkjlbiaaGreatDoorZ0
import Derived.Test.YtndiiknbkjlbiaaGreatDoorCards
import Derived.Test.YtndiiknbkjlbiaaGreatDoorTie
import Derived.ProofKit
import Derived.OpenShut
import Derived.Deep.DeepHandedRow
import Derived.Lib.LaidTab
import Derived.ChangeSame
namespace Go.Proofs.YtndiiknbkjlbiaaGreatDoor
open Go.RowKit

set_option maxRecDepth 100000 in
set_option maxHeartbeats 1000000 in
/-- product: a * b in a list of just n + m limbs. -/
theorem product_c (ao bo : Option Addr) (n m ca cb : Nat) (fa fb : Nat → Int) (w : World) (hap : AddProdC n m ca cb) (hn : n ≤ 4398046511104) (hm : m ≤ 4398046511104) (hra : Rd .u64 w ao n fa) (hrb : Rd .u64 w bo m fb) (ha : Lm fa n) (hb : Lm fb m) :
    Calls Tryz.prog 144 #[.slice ao n ca, .slice bo m cb] w fun e w' => e = .returned (.slice (some ⟨w.heap.size, 0, none⟩) (n + m) (n + m)) ∧ Below w.heap.size w w' ∧
      ∃ f', Blk .u64 83 w' w.heap.size (n + m) f' ∧ Lm f' (n + m) ∧ vf f' (n + m) = vf fa n * vf fb m := by
  have HP := hid hap; have HA := hid ha; have HB := hid hb; have RA := hid hra; have RB := hid hrb
  clear hap ha hb hra hrb
  go_enter Tryz.func144, Tryz.ntmps144
  go_wp2_with (at_make; refine wpList_make_blk .u64 w rfl (.tmp 10) (.tmp 10) 22 rfl 83 8 Tryz.underlying22 Tryz.infoU64 .i64 .i64 ((n : Int) + m) ((n : Int) + m) (n + m) rfl rfl (by omega) (by omega) (by omega) (by unfold maxLen; omega) ?_; intro w1 hb1 hbel1)
  have hz : vf (sh (fun _ => (0 : Int)) 0) (n + m) = 0 := vf_zero (fun _ _ => rfl)
  refine (HP.out w.heap.size 0 (n + m) (n + m) (fun _ => 0) ao bo (n + m) fa fb w1 hb1 (lm_zero _) (by omega) (Nat.le_refl _) (by omega) (RA.out.below hbel1 (Nat.le_refl _)) (RB.out.below hbel1 (Nat.le_refl _)) HA.out HB.out (fun h0 => (RA.out.und h0).off (Nat.le_refl _)) (fun h0 => (RB.out.und h0).off (Nat.le_refl _)) (Nat.le_refl _) (by omega) (by rw [hz]; have := prod_lt HA.out HB.out; omega)).mono ?_
  rintro e w2 ⟨rfl, hon, f2, hb2, hl2, he2, hv2⟩
  rw [hz] at hv2
  have HV2 := hid hv2
  clear hv2 hz
  go_wp2
  go_ret
  exact ⟨rfl, below_only hbel1 hon (Nat.le_refl _) hbel1.size, f2, hb2, hl2, by have := HV2.out; rw [sh_zero] at this; omega⟩

/-- trim of a list in a block, told with its place. -/
theorem trim_at (g N n : Nat) (f : Nat → Int) (w : World) (hb : Blk .u64 83 w g N f) (hn : n ≤ N) (hN : N ≤ 140737488355328) (hf : Lm f N) :
    Calls Tryz.prog 143 #[.slice (some ⟨g, 0, none⟩) n N] w fun e w' => w' = w ∧ ∃ x k c, e = .returned (.slice x k c) ∧ (∀ h, h ≠ g → Off x h) ∧ k ≤ n ∧ Rd .u64 w x k f ∧ Lm f k ∧ Fm f k ∧ vf f k = vf f n := by
  refine (trim_c _ n N f w hn hN (hb.rd0 hn)).mono ?_
  rintro e w2 ⟨rfl, m, hmn, hz, he⟩
  refine ⟨rfl, ?_⟩
  have hv : vf f m = vf f n := trim_val hmn hz
  rcases he with ⟨rfl, rfl⟩ | ⟨hm0, hne, rfl⟩
  · exact ⟨none, 0, 0, rfl, fun _ _ => off_none _, hmn, Rd.zero, fun j hj => by omega, .inl rfl, hv⟩
  · exact ⟨_, m, N, rfl, fun _ h => off_some (Ne.symm h), hmn, hb.rd0 (by omega), hf.mono (by omega), .inr hne, hv⟩

theorem Res.kept {C w w' ao n cap f} (h : Res C w w' ao n cap f) {k x m q} (hr : Rd k w x m q) : Rd k w' x m q := hr.below h.bel (Nat.le_refl _)

theorem mid_len {f : Nat → Int} {k D : Nat} (hl : Lm f k) (hf : Fm f k) (h : vf f k < pw D) : k ≤ D := by
  apply Nat.le_of_not_lt; intro hlt
  have b1 := vf_form_ge hl hf (by omega)
  have b2 := pw_mono (show D ≤ k - 1 by omega)
  omega

/-- The sum, put together. -/
theorem cut_sum (A0 A1 B0 B1 p V0 : Int) : V0 + A0 * B0 + A1 * B1 * (p * p) + ((A0 + A1) * (B0 + B1) - A0 * B0 - A1 * B1) * p = V0 + (A0 + A1 * p) * (B0 + B1 * p) := by grind

set_option maxRecDepth 100000 in
set_option maxHeartbeats 8000000 in
/-- addCutProduct. -/
theorem cut_c (g o cap N : Nat) (f : Nat → Int) (b ob b' ob' n m ca cb D c : Nat) (fa fb : Nat → Int) (w : World) (hb : Blk .u64 83 w g N f) (hf : Lm f N) (ho : o + D ≤ N) (hD : n + m ≤ D) (hN : N ≤ 140737488355328)
    (hra : Rd .u64 w (some ⟨b, ob, none⟩) n fa) (hrb : Rd .u64 w (some ⟨b', ob', none⟩) m fb) (ha : Lm fa n) (hbb : Lm fb m) (hcap : D ≤ cap) (hcm : cap ≤ 140737488355328) (hca : n ≤ ca) (hcam : ca ≤ 9223372036854775807) (hcb : m ≤ cb) (hcbm : cb ≤ 9223372036854775807)
    (hc : c = (n + 1) / 2) (hcm1 : c < m) (hmn : m ≤ n) (hm40 : 40 ≤ m) (hn44 : n ≤ 2199023255552)
    (hih : ∀ k l x y, k + l < n + m → k ≤ x → l ≤ y → x ≤ 9223372036854775807 → y ≤ 9223372036854775807 → AddProdC k l x y) (hroom : vf (sh f o) D + vf fa n * vf fb m < pw D) :
    Calls Tryz.prog 190 #[.slice (some ⟨g, o, none⟩) D cap, .slice (some ⟨b, ob, none⟩) n ca, .slice (some ⟨b', ob', none⟩) m cb] w fun e w' => e = .returned (.tuple #[]) ∧ Only g w w' ∧
      ∃ f', Blk .u64 83 w' g N f' ∧ Lm f' N ∧ (∀ j, j < o ∨ o + D ≤ j → f' j = f j) ∧ vf (sh f' o) D = vf (sh f o) D + vf fa n * vf fb m := by
  have HRm := hid hroom; have HB := hid hb; have HF := hid hf; have HRA := hid hra; have HRB := hid hrb; have HA := hid ha; have HBB := hid hbb; have HIH := hid hih
  have CH := hid (half_c n c n w (by omega) rfl hc)
  have hc1 : c < n := by omega
  have hc2 : 2 * c ≤ n + 1 := by omega
  have hc3 : n ≤ 2 * c := by omega
  clear hroom hb hf hra hrb ha hbb hih hc
  have e1 : (c : Int) ≤ (n : Int) := by omega
  have e2 : (c : Int) ≤ (m : Int) := by omega
  have e3 : (c : Int) ≤ (ca : Int) := by omega
  have e4 : (c : Int) ≤ (cb : Int) := by omega
  have e5 : ¬ (c = ca) := by omega
  have e6 : ¬ (ca = c) := by omega
  have e7 : ¬ (c = cb) := by omega
  have e8 : ¬ (cb = c) := by omega
  have C1 := hid (fun W h1 h2 => product_c (some ⟨b, ob, none⟩) (some ⟨b', ob', none⟩) c c ca cb fa fb W (HIH.out c c ca cb (by omega) (by omega) (by omega) hcam hcbm) (by omega) (by omega) h1 h2 (HA.out.mono (by omega)) (HBB.out.mono (by omega)))
  go_enter Tryz.func190, Tryz.ntmps190
  go_wp2_with fail
  refine CH.out.mono ?_
  rintro e w' ⟨rfl, rfl⟩
  go_upto_region 1 with fail
  go_cut [7] from 13 to 19 (fun s wx => s = .slice (some ⟨w'.heap.size, 0, none⟩) (c + c) (c + c) ∧ Below w'.heap.size w' wx ∧ ∃ fl, Blk .u64 83 wx w'.heap.size (c + c) fl ∧ Lm fl (c + c) ∧ vf fl (c + c) = vf fa c * vf fb c)
  case first =>
    go_region_with (go_at_call 144; refine (C1.out _ (by exact HRA.out.take (by omega)) (by exact HRB.out.take (by omega))).mono ?_; rintro e wl ⟨rfl, hbl, fl, hbl1, hll, hvl⟩; have HVl := hid hvl; clear hvl)
    all_goals
      go_wp2_with fail
      go_meet
      exact ⟨rfl, ⟨hbl.os, hbl.tape, hbl.output, hbl.size, hbl.block⟩, fl, hbl1, hll, HVl.out⟩
  case rest =>
  rename World => w1
  obtain ⟨rfl, hbel1, fl, hbl1, hll, hvl⟩ := hcut
  have HBl1 := hid hbl1; have HLl := hid hll; have HVl := hid hvl; have BE1 := hid hbel1
  have HRA1 := hid (HRA.out.below hbel1 (Nat.le_refl _)); have HRB1 := hid (HRB.out.below hbel1 (Nat.le_refl _))
  clear hbl1 hll hvl C1 CH hbel1
  have C2 := hid (fun W h1 h2 => product_c (some ⟨b, ob + c, none⟩) (some ⟨b', ob' + c, none⟩) (n - c) (m - c) (ca - c) (cb - c) (sh fa c) (sh fb c) W (HIH.out (n - c) (m - c) (ca - c) (cb - c) (by omega) (by omega) (by omega) (by omega) (by omega)) (by omega) (by omega) h1 h2 (HA.out.sh (by omega)) (HBB.out.sh (by omega)))
  go_upto_region 2 with fail
  go_cut [8] from 20 to 26 (fun s wx => s = .slice (some ⟨w1.heap.size, 0, none⟩) (n - c + (m - c)) (n - c + (m - c)) ∧ Below w1.heap.size w1 wx ∧ ∃ fh, Blk .u64 83 wx w1.heap.size (n - c + (m - c)) fh ∧ Lm fh (n - c + (m - c)) ∧ vf fh (n - c + (m - c)) = vf (sh fa c) (n - c) * vf (sh fb c) (m - c))
  case first =>
    go_region_with (go_at_call 144; refine (C2.out _ (by exact HRA1.out.drop (by omega)) (by exact HRB1.out.drop (by omega))).mono ?_; rintro e wh ⟨rfl, hbh, fh, hbh1, hlh, hvh⟩; have HVh := hid hvh; clear hvh)
    all_goals
      go_wp2_with fail
      go_meet
      exact ⟨rfl, ⟨hbh.os, hbh.tape, hbh.output, hbh.size, hbh.block⟩, fh, hbh1, hlh, HVh.out⟩
  case rest =>
  rename World => w2
  obtain ⟨rfl, hbel2, fh, hbh1, hlh, hvh⟩ := hcut
  have HBh2 := hid hbh1; have HLh := hid hlh; have HVh := hid hvh; have BE2 := hid hbel2
  have HRA2 := hid (HRA1.out.below hbel2 (Nat.le_refl _)); have HRB2 := hid (HRB1.out.below hbel2 (Nat.le_refl _))
  have HBl2 := hid (HBl1.out.below hbel2 (HBl1.out.lt))
  have BE12 := hid (BE1.out.trans (hbel2.mono BE1.out.size))
  have zz1 := BE1.out.size
  have zl1 := HBl1.out.lt
  have zh2 := HBh2.out.lt
  clear hbh1 hlh hvh C2 hbel2 HRA1 HRB1 HBl1
  have C3 := hid (fun W h1 h2 => add_c (some ⟨b, ob, none⟩) (some ⟨b, ob + c, none⟩) c (n - c) ca (ca - c) fa (sh fa c) W (by omega) (by omega) h1 h2 (HA.out.mono (by omega)) (HA.out.sh (by omega)))
  have C4 := hid (fun W h1 h2 => add_c (some ⟨b', ob', none⟩) (some ⟨b', ob' + c, none⟩) c (m - c) cb (cb - c) fb (sh fb c) W (by omega) (by omega) h1 h2 (HBB.out.mono (by omega)) (HBB.out.sh (by omega)))
  have hbb' : b = b' ∨ b ≠ b' := by omega
  go_upto_region 3 with fail
  go_cut [9] from 27 to 41 (fun s wx => ∃ G K fm, s = .slice (some ⟨G, 0, none⟩) K K ∧ w2.heap.size ≤ G ∧ Below w2.heap.size w2 wx ∧ K ≤ 4398046511104 ∧ Blk .u64 83 wx G K fm ∧ Lm fm K ∧ vf fm K = (vf fa c + vf (sh fa c) (n - c)) * (vf fb c + vf (sh fb c) (m - c)))
  case first =>
    go_region_with (first | (go_at_call_of 122 ca; refine (C3.out _ (by exact HRA2.out.take (by omega)) (by exact HRA2.out.drop (by omega))).mono ?_; rintro e wa ⟨xa, ka, da, va, rfl, hresa, hvva⟩; have HResA := hid hresa; have HVa := hid hvva; clear hresa hvva) | (go_at_call_of 122 cb; refine (C4.out _ ((HResA.out.kept (by exact HRB2.out)).take (by omega)) ((HResA.out.kept (by exact HRB2.out)).drop (by omega))).mono ?_; rintro e wb ⟨xb, kb, db, vb, rfl, hresb, hvvb⟩; have HResB := hid hresb; have HVb := hid hvvb; clear hresb hvvb) | (go_at_call 144; refine (product_c xa xb ka kb da db va vb _ (HIH.out ka kb da db (by have := HResA.out.le; have := HResB.out.le; omega) HResA.out.ncap.1 HResB.out.ncap.1 (by have := HResA.out.ncap; omega) (by have := HResB.out.ncap; omega)) (by have := HResA.out.le; omega) (by have := HResB.out.le; omega) (HResB.out.kept (by exact HResA.out.rd)) (by exact HResB.out.rd) HResA.out.lm HResB.out.lm).mono ?_; rintro e wm ⟨rfl, hbm, fm, hbm1, hlm, hvm⟩; have HVm := hid hvm; clear hvm))
    all_goals
      go_wp2_with fail
      go_meet
      have A := HResA.out.bel
      have BA : Below w2.heap.size w2 wa := ⟨A.os, A.tape, A.output, A.size, A.block⟩
      have BB := HResB.out.bel
      have y1 := BA.size
      have y2 := BB.size
      refine ⟨wb.heap.size, ka + kb, fm, rfl, by omega, BA.trans ((BB.mono y1).trans (hbm.mono (by omega))), by have := HResA.out.le; have := HResB.out.le; omega, hbm1, hlm, ?_⟩
      rw [HVm.out, HVa.out, HVb.out]
  case rest =>
  rename World => w3
  obtain ⟨G, K, fm, rfl, hG, hbel3, hK, hbm3, hlm, hvm⟩ := hcut
  have zz2 := BE2.out.size
  have zG := hbm3.lt
  obtain ⟨A0, hA0⟩ : ∃ A0, vf fa c = A0 := ⟨_, rfl⟩
  obtain ⟨A1, hA1⟩ : ∃ A1, vf (sh fa c) (n - c) = A1 := ⟨_, rfl⟩
  obtain ⟨B0, hB0⟩ : ∃ B0, vf fb c = B0 := ⟨_, rfl⟩
  obtain ⟨B1, hB1⟩ : ∃ B1, vf (sh fb c) (m - c) = B1 := ⟨_, rfl⟩
  have pA0 : 0 ≤ A0 := by rw [← hA0]; exact vf_nonneg (HA.out.mono (by omega))
  have pA1 : 0 ≤ A1 := by rw [← hA1]; exact vf_nonneg (HA.out.sh (by omega))
  have pB0 : 0 ≤ B0 := by rw [← hB0]; exact vf_nonneg (HBB.out.mono (by omega))
  have pB1 : 0 ≤ B1 := by rw [← hB1]; exact vf_nonneg (HBB.out.sh (by omega))
  have hAn : vf fa n = A0 + A1 * pw c := by rw [← hA0, ← hA1, ← vf_split, show c + (n - c) = n by omega]
  have hBn : vf fb m = B0 + B1 * pw c := by rw [← hB0, ← hB1, ← vf_split, show c + (m - c) = m by omega]
  have hvl := HVl.out
  have hvh := HVh.out
  rw [hA0, hB0] at hvl
  rw [hA1, hB1] at hvh
  rw [hA0, hA1, hB0, hB1] at hvm
  have p00 : 0 ≤ A0 * B0 := Int.mul_nonneg pA0 pB0
  have p11 : 0 ≤ A1 * B1 := Int.mul_nonneg pA1 pB1
  have p01 : 0 ≤ A0 * B1 := Int.mul_nonneg pA0 pB1
  have p10 : 0 ≤ A1 * B0 := Int.mul_nonneg pA1 pB0
  have hmid : (A0 + A1) * (B0 + B1) = A0 * B0 + A1 * B1 + (A0 * B1 + A1 * B0) := by grind
  rw [hmid] at hvm
  have hroom := HRm.out
  rw [hAn, hBn] at hroom
  have hall : vf (sh f o) D + (A0 + A1 * pw c) * (B0 + B1 * pw c) = vf (sh f o) D + A0 * B0 + A1 * B1 * pw (2 * c) + (A0 * B1 + A1 * B0) * pw c := by
    rw [show 2 * c = c + c by omega, pw_add]; grind
  rw [hall] at hroom
  generalize hL00 : A0 * B0 = L00 at *
  generalize hL11 : A1 * B1 = L11 at *
  generalize hLm : A0 * B1 + A1 * B0 = Lm' at *
  have pm : 0 ≤ Lm' := by omega
  clear hmid hA0 hA1 hB0 hB1 pA0 pA1 pB0 pB1 hL00 hL11 hLm p01 p10 C3 C4 HRA2 HRB2 HRA HRB HVl HVh HRm
  have ROOM := hid hroom; have HVl := hid hvl; have HVh := hid hvh; have HVm := hid hvm; have HAll := hid hall; have HAn := hid hAn; have HBn := hid hBn; have HLm3 := hid hlm; have HBm3 := hid hbm3
  have HBl3 := hid (HBl2.out.below hbel3 HBl2.out.lt)
  have HBh3 := hid (HBh2.out.below hbel3 HBh2.out.lt)
  have BE3 := hid (BE12.out.trans (hbel3.mono (by omega)))
  have HB3 := hid (HB.out.below BE3.out HB.out.lt)
  have gG := HB.out.lt
  clear hroom hvl hvh hvm hall hAn hBn hlm hbm3 hbel3 HBl2 HBh2 HB
  generalize hgl : w'.heap.size = gl at *
  generalize hgh : w1.heap.size = gh at *
  go_wp2_with fail
  refine (trim_at gl (c + c) (c + c) fl w3 HBl3.out (Nat.le_refl _) (by omega) HLl.out).mono ?_
  rintro e wt ⟨rfl, x1, k1, d1, rfl, hoff1, hk1, hr1, hl1, hf1, hv1⟩
  have HV1 := hid hv1; have HL1 := hid hl1; have HF1 := hid hf1; have HR1 := hid hr1; have HO1 := hid hoff1
  have hkK : k1 ≤ K := vf_len hl1 HLm3.out hf1 (by rw [hv1, HVl.out, HVm.out]; omega)
  clear hv1 hl1 hf1 hr1 hoff1
  go_wp2_with fail
  refine (subFrom_c G 0 K K K fm x1 k1 d1 fl _ HBm3.out HLm3.out (by omega) (by omega) HR1.out HL1.out (fun _ => HO1.out G (by omega)) hkK (Nat.le_refl _) (by omega) (by rw [sh_zero, HV1.out, HVl.out, HVm.out]; omega)).mono ?_
  rintro e w4 ⟨rfl, hon4, fm1, hb4, hl4, _, hv4⟩
  rw [sh_zero, sh_zero, HV1.out, HVl.out, HVm.out] at hv4
  have HBm4 := hid hb4; have HLm4 := hid hl4; have HVm4 := hid hv4; have ON4 := hid hon4
  have HBl4 := hid (HBl3.out.only hon4 (by omega)); have HBh4 := hid (HBh3.out.only hon4 (by omega)); have HB4 := hid (HB3.out.only hon4 (by omega))
  clear hb4 hl4 hv4 hon4 HR1 HL1 HF1 HO1 HV1 HBl3 HBh3 HB3 HBm3 HLm3 HVm hkK hk1
  go_wp2_with fail
  refine (trim_at gh (n - c + (m - c)) (n - c + (m - c)) fh w4 HBh4.out (Nat.le_refl _) (by omega) HLh.out).mono ?_
  rintro e wt ⟨rfl, x2, k2, d2, rfl, hoff1, hk1, hr1, hl1, hf1, hv1⟩
  have HV1 := hid hv1; have HL1 := hid hl1; have HF1 := hid hf1; have HR1 := hid hr1; have HO1 := hid hoff1
  have hkK : k2 ≤ K := vf_len hl1 HLm4.out hf1 (by rw [hv1, HVh.out, HVm4.out]; omega)
  clear hv1 hl1 hf1 hr1 hoff1
  go_wp2_with fail
  refine (subFrom_c G 0 K K K fm1 x2 k2 d2 fh _ HBm4.out HLm4.out (by omega) (by omega) HR1.out HL1.out (fun _ => HO1.out G (by omega)) hkK (Nat.le_refl _) (by omega) (by rw [sh_zero, HV1.out, HVh.out, HVm4.out]; omega)).mono ?_
  rintro e w5 ⟨rfl, hon5, fm2, hb5, hl5, _, hv5⟩
  rw [sh_zero, sh_zero, HV1.out, HVh.out, HVm4.out] at hv5
  have HBm5 := hid hb5; have HLm5 := hid hl5; have HVm5 := hid (show vf fm2 K = Lm' by omega); have ON5 := hid (ON4.out.trans hon5)
  have HBl5 := hid (HBl4.out.only hon5 (by omega)); have HBh5 := hid (HBh4.out.only hon5 (by omega)); have HB5 := hid (HB4.out.only hon5 (by omega))
  clear hb5 hl5 hv5 hon5 HR1 HL1 HF1 HO1 HV1 HBl4 HBh4 HB4 HBm4 HLm4 HVm4 hkK hk1 ON4
  have p2c := pw_pos (2 * c)
  have pc := pw_pos c
  have q11 : 0 ≤ L11 * pw (2 * c) := Int.mul_nonneg p11 (Int.le_of_lt p2c)
  have qmm : 0 ≤ Lm' * pw c := Int.mul_nonneg pm (Int.le_of_lt pc)
  have Q11 := hid q11; have QM := hid qmm
  clear q11 qmm p2c pc
  go_wp2_with fail
  refine (addTo_c g o D cap N f (some ⟨gl, 0, none⟩) (c + c) (c + c) fl w5 HB5.out HF.out ho hN (HBl5.out.rd0 (Nat.le_refl _)) HLl.out (fun _ => off_some (by omega)) (by omega) hcap hcm (by rw [HVl.out]; have := ROOM.out; have := Q11.out; have := QM.out; omega)).mono ?_
  rintro e w6 ⟨rfl, hon6, f6, hb6, hl6, he6, hv6⟩
  rw [HVl.out] at hv6
  have HB6 := hid hb6; have HL6 := hid hl6; have HE6 := hid he6; have HV6 := hid hv6; have ON6 := hid hon6
  have HBh6 := hid (HBh5.out.only hon6 (by omega)); have HBm6 := hid (HBm5.out.only hon6 (by omega))
  clear hb6 hl6 he6 hv6 hon6 HBh5 HBm5 HBl5 HB5
  have r1 : ¬ (2 * c = cap) := by omega
  have r2 : ¬ (cap = 2 * c) := by omega
  have r3 : (2 * (c : Int)) ≤ (D : Int) := by omega
  have r4 : (2 * (c : Int)).toNat = 2 * c := by omega
  have hroom7 := piece_room (o := o) (i := 2 * c) (D := D) (N := N) (X := L11) (by omega) HL6.out ho HV6.out (by have := ROOM.out; have := QM.out; omega)
  have R7 := hid hroom7
  clear hroom7
  go_wp2_with fail
  refine (addTo_c g (o + 2 * c) (D - 2 * c) (cap - 2 * c) N f6 (some ⟨gh, 0, none⟩) (n - c + (m - c)) (n - c + (m - c)) fh w6 HB6.out HL6.out (by omega) hN (HBh6.out.rd0 (Nat.le_refl _)) HLh.out (fun _ => off_some (by omega)) (by omega) (by omega) (by omega) (by rw [HVh.out]; exact R7.out)).mono ?_
  rintro e w7 ⟨rfl, hon7, f7, hb7, hl7, he7, hv7⟩
  rw [HVh.out] at hv7
  have hv7' := piece_val (V := vf (sh f o) D + L00 + L11 * pw (2 * c)) (by omega) HV6.out he7 hv7 rfl
  have hroom8 := piece_room (o := o) (i := c) (D := D) (N := N) (X := Lm') (by omega) hl7 ho hv7' (by have := ROOM.out; omega)
  have lo8 := vf_nonneg (hl7.sh (o := o + c) (m := D - c) (by omega))
  have R8 := hid hroom8; have HB7 := hid hb7; have HL7 := hid hl7; have HV7 := hid hv7'; have ON7 := hid (ON6.out.trans hon7)
  have HE7 := hid (show ∀ j, j < o ∨ o + D ≤ j → f7 j = f j from fun j hj => (he7 j (by omega)).trans (HE6.out j hj))
  have LO8 := hid lo8
  have HBm7 := hid (HBm6.out.only hon7 (by omega))
  clear hroom8 hb7 hl7 hv7 hv7' he7 hon7 lo8 HB6 HL6 HE6 HV6 ON6 HBh6 HBm6 R7
  have r5 : ¬ (c = cap) := by omega
  have r6 : ¬ (cap = c) := by omega
  have r7 : (c : Int) ≤ (D : Int) := by omega
  go_wp2_with fail
  go_region_with (first | (go_at_call 143; refine (trim_at G K K fm2 _ (by exact HBm7.out) (Nat.le_refl _) (by omega) HLm5.out).mono ?_; rintro e wt ⟨rfl, x3, k3, d3, rfl, hoff3, hk3, hr3, hl3, hf3, hv3⟩; have HV3 := hid hv3; have HL3 := hid hl3; have HF3 := hid hf3; have HR3 := hid hr3; have HO3 := hid hoff3; clear hv3 hl3 hf3 hr3 hoff3) | (go_at_call 147; refine (addTo_c g (o + c) (D - c) (cap - c) N f7 x3 k3 d3 fm2 _ (by exact HB7.out) HL7.out (by omega) hN (by exact HR3.out) HL3.out (fun _ => HO3.out g (by omega)) (by exact mid_len HL3.out HF3.out (by rw [HV3.out, HVm5.out]; have := R8.out; have := LO8.out; omega)) (by omega) (by omega) (by rw [HV3.out, HVm5.out]; exact R8.out)).mono ?_; rintro e w8 ⟨rfl, hon8, f8, hb8, hl8, he8, hv8⟩; have HB8 := hid hb8; have HL8 := hid hl8; have HE8 := hid he8; have HV8 := hid hv8; clear hb8 hl8 he8 hv8))
  all_goals
    go_wp2
    have B5 : Below gl w' w5 := below_only BE3.out ON5.out (by omega) (by have := BE3.out.size; omega)
    rw [← hgl] at B5
    have O7 := (Only.of_below (g := g) B5).trans ON7.out
    have O8 : Only g w7 w8 := ⟨hon8.os, hon8.tape, hon8.output, hon8.size, hon8.block⟩
    have hv8 := HV8.out
    rw [HV3.out, HVm5.out] at hv8
    have hfin := piece_val (V := vf (sh f o) D + L00 + L11 * pw (2 * c) + Lm' * pw c) (by omega) HV7.out HE8.out hv8 rfl
    refine bodyPost_end (v := .tuple #[]) (results_none rfl _ _ _) rfl ⟨rfl, O7.trans O8, f8, HB8.out, HL8.out, fun j hj => (HE8.out j (by omega)).trans (HE7.out j hj), ?_⟩
    rw [hfin, HAn.out, HBn.out, HAll.out]

end Go.Proofs.YtndiiknbkjlbiaaGreatDoor
namespace Go.Proofs.YtndiiknbkjlbiaaGreatDoor
open Go.RowKit

set_option maxHeartbeats 2000000 in
/-- addProduct, where products of shorter lists are right. -/
theorem addProd_big (n m ca cb : Nat) (hn : n ≤ 2199023255552) (hm : m ≤ 2199023255552) (hca : n ≤ ca) (hcb : m ≤ cb) (hcam : ca ≤ 9223372036854775807) (hcbm : cb ≤ 9223372036854775807) (hn40 : 40 ≤ n) (hm40 : 40 ≤ m)
    (hih : ∀ k l x y, k + l < n + m → k ≤ x → l ≤ y → x ≤ 9223372036854775807 → y ≤ 9223372036854775807 → AddProdC k l x y) : AddProdC n m ca cb := by
  intro g o cap N f ao bo D fa fb w hb hf ho hD hN hra hrb ha hbb hoa hob hcap hcm hroom
  by_cases hsw : n < m
  · have hmul : vf fa n * vf fb m = vf fb m * vf fa n := Int.mul_comm _ _
    rw [hmul] at hroom ⊢
    obtain ⟨ba, oa, rfl⟩ := hrb.at (by omega)
    obtain ⟨bb, obb, rfl⟩ := hra.at (by omega)
    have hne_a : ba ≠ g := hob (by omega) _ rfl
    have hne_b : bb ≠ g := hoa (by omega) _ rfl
    obtain ⟨c, hc⟩ : ∃ c, c = (m + 1) / 2 := ⟨_, rfl⟩
    have CH := hid (half_c m c m w (by omega) rfl hc)
    by_cases hcut : n ≤ c
    · have C := hid (piece_c g o cap N f ba oa (some ⟨bb, obb, none⟩) m n cb ca D fb fa w hb hf ho (by omega) hN hrb hra hbb ha (hne_a) hoa hcap hcm hcb hcbm (by omega) (fun k x h1 h2 h3 => hih k n x ca (by omega) h2 hca (by omega) hcam) hroom)
      clear hroom hra hrb ha hbb hoa hob hb hf hih hc hne_a hne_b hmul
      go_enter Tryz.func168, Tryz.ntmps168
      go_wp2_with fail
      refine CH.out.mono ?_
      rintro e w' ⟨rfl, rfl⟩
      go_wp2_with fail
      refine C.out.mono ?_
      rintro e w' ⟨rfl, hrest⟩
      have HRest := hid hrest
      clear hrest
      go_wp2
      exact bodyPost_end (v := .tuple #[]) (results_none rfl _ _ _) rfl ⟨rfl, HRest.out⟩
    · have C := hid (cut_c g o cap N f ba oa bb obb m n cb ca D c fb fa w hb hf ho (by omega) hN hrb hra hbb ha hcap hcm hcb hcbm hca hcam hc (by omega) (by omega) (by omega) (by omega) (fun k l x y h => hih k l x y (by omega)) hroom)
      clear hroom hra hrb ha hbb hoa hob hb hf hih hc hne_a hne_b hmul
      go_enter Tryz.func168, Tryz.ntmps168
      go_wp2_with fail
      refine CH.out.mono ?_
      rintro e w' ⟨rfl, rfl⟩
      go_wp2_with fail
      refine C.out.mono ?_
      rintro e w' ⟨rfl, hrest⟩
      have HRest := hid hrest
      clear hrest
      go_wp2
      exact bodyPost_end (v := .tuple #[]) (results_none rfl _ _ _) rfl ⟨rfl, HRest.out⟩
  · skip
    obtain ⟨ba, oa, rfl⟩ := hra.at (by omega)
    obtain ⟨bb, obb, rfl⟩ := hrb.at (by omega)
    have hne_a : ba ≠ g := hoa (by omega) _ rfl
    have hne_b : bb ≠ g := hob (by omega) _ rfl
    obtain ⟨c, hc⟩ : ∃ c, c = (n + 1) / 2 := ⟨_, rfl⟩
    have CH := hid (half_c n c n w (by omega) rfl hc)
    by_cases hcut : m ≤ c
    · have C := hid (piece_c g o cap N f ba oa (some ⟨bb, obb, none⟩) n m ca cb D fa fb w hb hf ho (by omega) hN hra hrb ha hbb (hne_a) hob hcap hcm hca hcam (by omega) (fun k x h1 h2 h3 => hih k m x cb (by omega) h2 hcb (by omega) hcbm) hroom)
      clear hroom hra hrb ha hbb hoa hob hb hf hih hc hne_a hne_b
      go_enter Tryz.func168, Tryz.ntmps168
      go_wp2_with fail
      refine CH.out.mono ?_
      rintro e w' ⟨rfl, rfl⟩
      go_wp2_with fail
      refine C.out.mono ?_
      rintro e w' ⟨rfl, hrest⟩
      have HRest := hid hrest
      clear hrest
      go_wp2
      exact bodyPost_end (v := .tuple #[]) (results_none rfl _ _ _) rfl ⟨rfl, HRest.out⟩
    · have C := hid (cut_c g o cap N f ba oa bb obb n m ca cb D c fa fb w hb hf ho (by omega) hN hra hrb ha hbb hcap hcm hca hcam hcb hcbm hc (by omega) (by omega) (by omega) (by omega) (fun k l x y h => hih k l x y (by omega)) hroom)
      clear hroom hra hrb ha hbb hoa hob hb hf hih hc hne_a hne_b
      go_enter Tryz.func168, Tryz.ntmps168
      go_wp2_with fail
      refine CH.out.mono ?_
      rintro e w' ⟨rfl, rfl⟩
      go_wp2_with fail
      refine C.out.mono ?_
      rintro e w' ⟨rfl, hrest⟩
      have HRest := hid hrest
      clear hrest
      go_wp2
      exact bodyPost_end (v := .tuple #[]) (results_none rfl _ _ _) rfl ⟨rfl, HRest.out⟩

/-- addProduct: for all lists. -/
theorem addProd_all (s : Nat) : ∀ n m ca cb, n + m ≤ s → s ≤ 2199023255552 → n ≤ ca → m ≤ cb → ca ≤ 9223372036854775807 → cb ≤ 9223372036854775807 → AddProdC n m ca cb := by
  induction s with
  | zero => intro n m ca cb h _ _ _ _ _; exact (addProd_small n m (by omega)).at ca cb
  | succ s ih =>
    intro n m ca cb h hs h1 h2 h3 h4
    by_cases hsm : n < 40 ∨ m < 40
    · exact (addProd_small n m hsm).at ca cb
    · exact addProd_big n m ca cb (by omega) (by omega) h1 h2 h3 h4 (by omega) (by omega) (fun k l x y hk => ih k l x y (by omega) (by omega))

set_option maxHeartbeats 1000000 in
/-- mul: the product. -/
theorem mul_c (ao bo : Option Addr) (n m ca cb : Nat) (fa fb : Nat → Int) (w : World) (hn : n ≤ 1099511627776) (hm : m ≤ 1099511627776) (hca : n ≤ ca) (hcb : m ≤ cb) (hcam : ca ≤ 9223372036854775807) (hcbm : cb ≤ 9223372036854775807) (hra : Rd .u64 w ao n fa) (hrb : Rd .u64 w bo m fb) (ha : Lm fa n) (hb : Lm fb m) :
    Calls Tryz.prog 120 #[.slice ao n ca, .slice bo m cb] w fun e w' => ∃ ao' k cap' f', e = .returned (.slice ao' k cap') ∧ Res (n + m) w w' ao' k cap' f' ∧ vf f' k = vf fa n * vf fb m := by
  have c := product_c ao bo n m ca cb fa fb w (addProd_all (n + m) n m ca cb (Nat.le_refl _) (by omega) hca hcb hcam hcbm) (by omega) (by omega) hra hrb ha hb
  have C := hid c
  clear c ha hb hra hrb
  go_enter Tryz.func120, Tryz.ntmps120
  go_wp2_with fail
  refine C.out.mono ?_
  rintro e w1 ⟨rfl, hbel, f1, hb1, hl1, hv1⟩
  have HV1 := hid hv1
  clear hv1
  go_wp2_with fail
  refine (trim_res w.heap.size (n + m) (n + m) f1 w w1 hbel (Nat.le_refl _) hb1 (Nat.le_refl _) (by omega) hl1).mono ?_
  rintro e w2 ⟨rfl, ao', k, cap', rfl, hres, hkn, hv⟩
  have HV := hid hv
  clear hv
  go_wp2
  go_ret
  exact ⟨ao', k, cap', f1, rfl, hres, by rw [HV.out]; exact HV1.out⟩
end Go.Proofs.YtndiiknbkjlbiaaGreatDoor
namespace Go.Proofs.YtndiiknbkjlbiaaGreatDoor
open Go.RowKit

/-- The levels that so many pieces ask. -/
def lev (n : Nat) : Nat := if n ≤ 1 then 0 else Lib.bitLen (n - 1)

set_option maxHeartbeats 400000 in
theorem levels_c (n : Nat) (z : Int) (w : World) (hz : z = n) (hn : n ≤ 140737488355328) : Calls Tryz.prog 131 #[.int .i64 z] w fun e w' => e = .returned (.int .i64 (lev n)) ∧ w' = w := by
  subst hz
  by_cases h : n ≤ 1
  · have E := hid (show lev n = 0 by simp [lev, h])
    go_enter Tryz.func131, Tryz.ntmps131
    go_wp2
    go_ret
    exact ⟨by rw [E.out]; rfl, rfl⟩
  · have c := Tryz.bits_Len ((n : Int) - 1) w (by omega) (by omega)
    have e : ((n : Int) - 1).toNat = n - 1 := by omega
    rw [e] at c
    have E := hid (show lev n = Lib.bitLen (n - 1) by simp [lev, h])
    have C := hid c
    clear c e
    go_enter Tryz.func131, Tryz.ntmps131
    go_wp2_with fail
    refine C.out.mono ?_
    rintro e w' ⟨rfl, rfl⟩
    go_wp2
    go_ret
    exact ⟨by rw [E.out]; rfl, rfl⟩

/-- The slice's block is a row of limbs. -/
def Tg (w : World) (ao : Option Addr) : Prop := ∀ a, ao = some a → ∃ arr fr, w.heap[a.block]? = some (.cells arr 83 fr)
/-- A number in memory, of at most C limbs, in form. -/
def Num (w : World) (v : Value) (C : Nat) (V : Int) : Prop := ∃ ao n cap f, v = .slice ao n cap ∧ Rd .u64 w ao n f ∧ Tg w ao ∧ Lm f n ∧ Fm f n ∧ n ≤ C ∧ vf f n = V ∧ n ≤ cap ∧ cap ≤ 9223372036854775807
theorem Tg.und {w ao} (h : Tg w ao) : Und ao w.heap.size := fun a ha => by
  obtain ⟨arr, fr, e⟩ := h a ha
  exact (Array.getElem?_eq_some_iff.1 e).1
theorem Tg.below {w w' ao} (h : Tg w ao) (hb : Below w.heap.size w w') : Tg w' ao := fun a ha => by
  obtain ⟨arr, fr, e⟩ := h a ha
  exact ⟨arr, fr, by rw [hb.block _ (Array.getElem?_eq_some_iff.1 e).1]; exact e⟩
theorem Num.below {w w' v C V} (h : Num w v C V) (hb : Below w.heap.size w w') : Num w' v C V := by
  obtain ⟨ao, n, cap, f, rfl, h1, ht, h2, h3, h4, h5⟩ := h
  exact ⟨ao, n, cap, f, rfl, h1.below hb (Nat.le_refl _), ht.below hb, h2, h3, h4, h5⟩
/-- Another row was written, whose elements are no limbs. -/
theorem Tg.off {w ao g} (h : Tg w ao) {cur e fr} (hg : w.heap[g]? = some (.cells cur e fr)) (he : e ≠ 83) : Off ao g := fun a ha hag => by
  obtain ⟨arr, fr', e'⟩ := h a ha
  rw [hag, hg] at e'
  simp at e'
  exact he e'.2.1
theorem Num.only {w w' v C V g} (h : Num w v C V) (hb : Only g w w') {cur e fr} (hg : w.heap[g]? = some (.cells cur e fr)) (he : e ≠ 83) : Num w' v C V := by
  obtain ⟨ao, n, cap, f, rfl, h1, ht, h2, h3, h4, h5⟩ := h
  have ho := ht.off hg he
  refine ⟨ao, n, cap, f, rfl, h1.only hb ho, fun a ha => ?_, h2, h3, h4, h5⟩
  obtain ⟨arr, fr', e'⟩ := ht a ha
  exact ⟨arr, fr', by rw [hb.block _ (Array.getElem?_eq_some_iff.1 e').1 (ho a ha)]; exact e'⟩
theorem Num.grown {w w' v C V row} (h : Num w v C V) (hb : w.grownBy w' row) (hg : ∀ g, row = some g → ∃ cur fr, w.heap[g]? = some (.cells cur 22 fr)) : Num w' v C V := by
  cases row with
  | none => exact h.below ⟨hb.os, hb.tape, hb.output, hb.size, fun k hk => hb.block k hk (by simp)⟩
  | some g =>
    obtain ⟨cur, fr, e⟩ := hg g rfl
    exact h.only (g := g) ⟨hb.os, hb.tape, hb.output, hb.size, fun k hk hn => hb.block k hk (by simpa using hn)⟩ e (by decide)
theorem own_tag {w : World} {base e n v xs} (h : w.ownsRow base e 1 v n xs) : ∀ g, v.ownBlock = some g → ∃ cur fr, w.heap[g]? = some (.cells cur e fr) := by
  intro g hg
  rcases h.2 with ⟨rfl, _⟩ | ⟨g', cap, cur, rfl, hb, hgg, _⟩
  · simp [Value.ownBlock] at hg
  · simp [Value.ownBlock] at hg
    subst hg
    exact ⟨cur, _, hgg⟩
theorem Res.num {C w w' ao n cap f} (h : Res C w w' ao n cap f) (hC : C ≤ 9223372036854775807) : Num w' (.slice ao n cap) C (vf f n) := by
  refine ⟨ao, n, cap, f, rfl, h.rd, fun a ha => ?_, h.lm, h.fm, h.le, rfl, h.ncap.1, by have := h.ncap; omega⟩
  rcases h.own with ⟨rfl, _⟩ | ⟨g, rfl, _, _, _, _, hb⟩
  · cases ha
  · cases ha
    obtain ⟨arr, e, _⟩ := hb
    exact ⟨arr, _, e⟩
theorem Num.mono {w v C C' V} (h : Num w v C V) (hC : C ≤ C') : Num w v C' V := by
  obtain ⟨ao, n, cap, f, rfl, h1, ht, h2, h3, h4, h5⟩ := h
  exact ⟨ao, n, cap, f, rfl, h1, ht, h2, h3, by omega, h5⟩
theorem snoc_get {vs : List Value} {v u : Value} {j : Nat} (h : (vs ++ [v])[j]? = some u) : vs[j]? = some u ∨ j = vs.length ∧ u = v := by
  rcases Nat.lt_trichotomy j vs.length with hl | rfl | hl
  · rw [List.getElem?_append_left hl] at h; exact .inl h
  · simp at h; exact .inr ⟨rfl, h.symm⟩
  · rw [List.getElem?_eq_none (by simp; omega)] at h; cases h

/-- The base of so many doublings. -/
def tens (j : Nat) : Int := 10 ^ (19 * 2 ^ j)
theorem tens_succ (j : Nat) : tens (j + 1) = tens j * tens j := by
  unfold tens
  rw [← Int.pow_add, Nat.pow_succ]; congr 1; omega
/-- The bases, in memory. -/
def Bas (w : World) (bo : Option Addr) (c : Nat) : Prop := ∀ j, j < c → ∃ b u arr fr, bo = some ⟨b, 0, none⟩ ∧ w.heap[b]? = some (.cells arr 22 fr) ∧ w.cell? ⟨b, j, none⟩ = some u ∧ Num w u (2 ^ j) (tens j)
theorem Bas.take {w bo c c'} (h : Bas w bo c) (hc : c' ≤ c) : Bas w bo c' := fun j hj => h j (by omega)
theorem Bas.below {w w' bo c} (h : Bas w bo c) (hb : Below w.heap.size w w') : Bas w' bo c := fun j hj => by
  obtain ⟨b, u, arr, fr, e1, e2, e3, e4⟩ := h j hj
  have hl := (Array.getElem?_eq_some_iff.1 e2).1
  exact ⟨b, u, arr, fr, e1, (hb.block b hl).trans e2, (World.cell?_of_block (hb.block b hl)).trans e3, e4.below hb⟩
theorem Bas.only {w w' bo c g} (h : Bas w bo c) (hb : Only g w w') {cur e fr} (hg : w.heap[g]? = some (.cells cur e fr)) (he : e ≠ 83) (he2 : e ≠ 22) : Bas w' bo c := fun j hj => by
  obtain ⟨b, u, arr, fr, e1, e2, e3, e4⟩ := h j hj
  have hl := (Array.getElem?_eq_some_iff.1 e2).1
  have hbg : b ≠ g := fun h => by
    rw [h, hg] at e2
    simp at e2
    exact he2 e2.2.1
  exact ⟨b, u, arr, fr, e1, (hb.block b hl hbg).trans e2, (World.cell?_of_block (hb.block b hl hbg)).trans e3, e4.only hb hg he⟩
theorem Tryz.infoSl : (Tryz.prog.info? 22).map (fun i => (i.zero, i.size, i.bytes)) = some (some (.slice none 0 0), 1, 24) := by kernel_rfl

set_option maxRecDepth 100000 in
set_option maxHeartbeats 2000000 in
/-- bases: the bases of 1, 2, 4 .. pieces. -/
theorem bases_c (count : Nat) (w : World) (hc : count ≤ 40) :
    Calls Tryz.prog 133 #[.int .i64 count] w fun e w' => ∃ (bo : Option Addr) (cap : Nat), e = .returned (.slice bo count cap) ∧ Below w.heap.size w w' ∧ count ≤ cap ∧ cap ≤ maxLen ∧ (bo = none → cap = 0) ∧ Bas w' bo count := by
  obtain ⟨i0, hi, hz0, hz1, hz2⟩ := info_parts Tryz.infoSl
  go_enter Tryz.func133, Tryz.ntmps133
  go_wp2
  go_loopw [3, 4, 8] (fun v vb c wr => ∃ (k : Nat) (vs : List Value), k ≤ count ∧ c = .int .i64 k ∧ Below w.heap.size w wr ∧ Hid (wr.ownsRow w.heap.size 22 1 v k vs) ∧ Hid (∀ j u, vs[j]? = some u → Num wr u (2 ^ j) (tens j)) ∧ Hid (Num wr vb (2 ^ (k - 1)) (tens (k - 1)))) (fun _ _ c _ => count - (intOf c).toNat)
  case atStart =>
    refine ⟨0, [], by omega, rfl, (Below.refl _ _).alloc (Nat.le_refl _) _, World.ownsRow_nil _ _ _ _, fun j u h => by simp at h, ?_⟩
    refine ⟨_, 1, 1, fun _ => 10000000000000000000, rfl, rd_new1 w _ _, fun a ha => ?_, lm_const (by decide) (by decide) 1, .inr (by show (10000000000000000000 : Int) ≠ 0; decide), by decide, ?_, by decide, by decide⟩
    · cases ha; exact ⟨_, _, heap_alloc_new w _⟩
    · simp [vf, pw, tens]
  case round =>
    obtain ⟨k, vs, hk, rfl, hbl, OO, NA, HB⟩ := hrel
    by_cases hlt : k < count
    · obtain ⟨ab, nb, cb, fb, hvb, hr, ht, hl, hf, hn, hv, hcb1, hcb2⟩ := HB.out
      subst hvb
      have RB := hid hr; have TB := hid ht; have LB := hid hl; have FB := hid hf; have VB := hid hv
      clear hr ht hl hf hv
      by_cases h0 : k = 0
      · subst h0
        have NB := HB
        clear HB RB TB LB FB VB
        go_wp2_with (at_builtin; refine wpList_append_own _ rfl (.tmp 16) (.tmp 18) 138 rfl w.heap.size 22 i0 (.slice none 0 0) 1 24 Tryz.underlying138 hi hz0 hz1 hz2 rfl (by decide) _ 0 vs rfl (World.ownsRow.alloc OO.out _) ⟨wr.heap.size, 0, none⟩ 1 1 [.slice ab nb cb] rfl rfl ?c1 ?c2 ?c3 ?c4 ?c5 ?_)
        case c1 =>
          intro j u hj
          match j, hj with
          | 0, hj => simp at hj; subst hj; simp [Addr.add]
        case c2 => intro u hu; simp at hu; subst hu; rfl
        case c3 => unfold maxLen; omega
        case c4 => omega
        case c5 => have := hbl.size; simp; omega
        intro v' w' hown hgr _
        have hba : Below wr.heap.size wr (wr.alloc _) := (Below.refl _ _).alloc (Nat.le_refl _) (.cells #[.slice ab nb cb] 22)
        have tag := own_tag (World.ownsRow.alloc OO.out (.cells #[.slice ab nb cb] 22))
        have N2 := hid (show Num w' (.slice ab nb cb) (2 ^ 0) (tens 0) from (NB.out.below hba).grown hgr tag)
        have A2 := hid (show ∀ j u, (vs ++ [.slice ab nb cb])[j]? = some u → Num w' u (2 ^ j) (tens j) from fun j u hu => by
          rcases snoc_get hu with h | ⟨rfl, rfl⟩
          · exact ((NA.out j u h).below hba).grown hgr tag
          · rw [show vs.length = 0 by have := OO.out.1; omega]; exact N2.out)
        have hbl2 : Below w.heap.size w w' := (hbl.alloc hbl.size _).grown hgr (by have := hbl.size; simp; omega) (fun g hg => (World.ownsRow.lt OO.out g hg).1)
        have HO2 := hid hown
        clear hown hgr tag hba OO NA NB
        go_wp2
        go_roundw
        case rel => exact ⟨1, vs ++ [Value.slice ab nb cb], by omega, by go_num, hbl2, HO2.out, A2.out, N2.out⟩
        case measure => simp [intOf]; omega
      · have hnb : nb ≤ 2 ^ (count - 2) := Nat.le_trans hn (Nat.pow_le_pow_right (by omega) (by omega))
        have hnb2 : nb ≤ 2 ^ 38 := Nat.le_trans hnb (Nat.pow_le_pow_right (by omega) (by omega))
        have hnb3 : nb ≤ 274877906944 := hnb2
        have hgt : (0 : Int) < k := by omega
        clear HB
        have C := hid (mul_c ab ab nb nb cb cb fb fb wr (by omega) (by omega) hcb1 hcb1 hcb2 hcb2 RB.out RB.out LB.out LB.out)
        go_wp2_with fail
        refine C.out.mono ?_
        clear C RB TB LB FB
        rintro e w1 ⟨ab, nb', cb, f1, rfl, hres, hv1⟩
        rw [VB.out, ← tens_succ, show k - 1 + 1 = k by omega] at hv1
        have NB := hid (show Num w1 (.slice ab nb' cb) (2 ^ k) (tens k) from by
          have := hres.num (by omega)
          rw [hv1] at this
          exact this.mono (by have : 2 ^ k = 2 ^ (k - 1) * 2 := by rw [← Nat.pow_succ, show (k - 1).succ = k by omega]
                              omega))
        have hb1 := hres.bel
        have OO' := hid (World.ownsRow.kept OO.out ⟨hb1.os, hb1.tape, hb1.output, hb1.size, fun k hk _ => hb1.block k hk⟩ (row := none) (by
          cases hvv : Value.ownBlock _ with
          | none => exact .inl rfl
          | some x => exact .inr (by simp)))
        have NA' := hid (fun j u h => (NA.out j u h).below hb1)
        have hbl' := hbl.trans (hb1.mono hbl.size)
        clear OO NA hbl hres hv1 VB hb1
        have OO := OO'; have NA := NA'; have hbl := hbl'
        clear OO' NA' hbl'
        go_wp2_with (at_builtin; refine wpList_append_own _ rfl (.tmp 16) (.tmp 18) 138 rfl w.heap.size 22 i0 (.slice none 0 0) 1 24 Tryz.underlying138 hi hz0 hz1 hz2 rfl (by decide) _ k vs rfl (World.ownsRow.alloc OO.out _) ⟨w1.heap.size, 0, none⟩ 1 1 [.slice ab nb' cb] rfl rfl ?d1 ?d2 ?d3 ?d4 ?d5 ?_)
        case d1 =>
          intro j u hj
          match j, hj with
          | 0, hj => simp at hj; subst hj; simp [Addr.add]
        case d2 => intro u hu; simp at hu; subst hu; rfl
        case d3 => unfold maxLen; omega
        case d4 => omega
        case d5 => have := hbl.size; simp; omega
        intro v' w' hown hgr _
        have hba : Below w1.heap.size w1 (w1.alloc _) := (Below.refl _ _).alloc (Nat.le_refl _) (.cells #[.slice ab nb' cb] 22)
        have tag := own_tag (World.ownsRow.alloc OO.out (.cells #[.slice ab nb' cb] 22))
        have N2 := hid (show Num w' (.slice ab nb' cb) (2 ^ k) (tens k) from (NB.out.below hba).grown hgr tag)
        have A2 := hid (show ∀ j u, (vs ++ [.slice ab nb' cb])[j]? = some u → Num w' u (2 ^ j) (tens j) from fun j u hu => by
          rcases snoc_get hu with h | ⟨rfl, rfl⟩
          · exact ((NA.out j u h).below hba).grown hgr tag
          · rw [show vs.length = k by have := OO.out.1; omega]; exact N2.out)
        have hbl2 : Below w.heap.size w w' := (hbl.alloc hbl.size _).grown hgr (by have := hbl.size; simp; omega) (fun g hg => (World.ownsRow.lt OO.out g hg).1)
        have HO2 := hid hown
        clear hown hgr tag hba OO NA NB
        go_wp2
        go_roundw
        case rel => exact ⟨k + 1, vs ++ [Value.slice ab nb' cb], by omega, by go_num, hbl2, HO2.out, A2.out, N2.out⟩
        case measure => simp [intOf]; omega
    · have hkc : k = count := by omega
      subst hkc
      have hlen := OO.out.1
      rcases OO.out.2 with ⟨hv, hk0⟩ | ⟨g, cap, cur, hv, hb, hg, hn, hm, hs, ht⟩
      · subst hv
        subst hk0
        clear OO HB
        go_wp2
        go_ret
        exact ⟨none, 0, rfl, hbl, by omega, by unfold maxLen; omega, fun _ => rfl, fun j hj => by omega⟩
      · subst hv
        have HG := hid hg; have HT := hid ht; have HS := hid hs
        clear OO HB hg ht hs
        go_wp2
        go_ret
        refine ⟨some ⟨g, 0, none⟩, cap, rfl, hbl, hn, hm, (fun h => by cases h), fun j hj => ?_⟩
        have hu : vs[j]? = some (vs[j]'(by omega)) := List.getElem?_eq_getElem (by omega)
        have hnum := NA.out j _ hu
        have hg := HG.out
        refine ⟨g, _, cur, _, rfl, hg, ?_, hnum⟩
        rw [← hu, ← HT.out, List.getElem?_take, if_pos (by omega)]
        simp [World.cell?, hg]
end Go.Proofs.YtndiiknbkjlbiaaGreatDoor
namespace Go.Proofs.YtndiiknbkjlbiaaGreatDoor
open Go.RowKit

/-- The table of powers of ten lies as the program's text lays it. -/
def Tab (w : World) : Prop := Lib.TabIs Tryz.prog w "internal/strconv.uint64pow10" .u64 Lib.pow10Tab
theorem tab_gl : Tryz.prog.globalNamed "internal/strconv.uint64pow10" = some 5 := by kernel_rfl
theorem Tab.of {w w' : World} (h : Tab w) (he : w'.heap[5]? = w.heap[5]?) : Tab w' := by
  unfold Tab Lib.TabIs World.var? at *
  rw [tab_gl] at h ⊢
  simp only [Option.bind_some] at h ⊢
  rw [he]; exact h
theorem Tab.lt {w : World} (h : Tab w) : 5 < w.heap.size := by
  unfold Tab Lib.TabIs World.var? at h
  rw [tab_gl] at h
  simp only [Option.bind_some] at h
  rcases Nat.lt_or_ge 5 w.heap.size with h' | h'
  · exact h'
  · rw [Array.getElem?_eq_none h'] at h; simp at h
theorem Tab.below {w w' : World} {B : Nat} (h : Tab w) (hb : Below B w w') (hB : 5 < B) : Tab w' := h.of (hb.block _ hB)
theorem Tab.only {w w' : World} {g : Nat} (h : Tab w) (hb : Only g w w') (hg : 5 < g) : Tab w' := h.of (hb.block _ h.lt (by omega))

/-- divMod does its work at these numbers. -/
def DivOk (X Y : Int) : Prop := ∀ (ao bo : Option Addr) (n m ca cb : Nat) (f h : Nat → Int) (w : World), n ≤ 8796093022208 → m ≤ 8796093022208 → Rd .u64 w ao n f → Rd .u64 w bo m h → Lm f n → Lm h m → Fm f n → Fm h m → vf f n = X → vf h m = Y →
    Calls Tryz.prog 105 #[.slice ao n ca, .slice bo m cb] w fun e w' => ∃ a1 k1 c1 q a2 k2 c2 r, e = .returned (.tuple #[.slice a1 k1 c1, .slice a2 k2 c2]) ∧ Res n w w' a1 k1 c1 q ∧ Res (n + 1) w w' a2 k2 c2 r ∧ vf f n = vf q k1 * vf h m + vf r k2 ∧ 0 ≤ vf r k2 ∧ vf r k2 < vf h m
theorem divOk_small {X Y : Int} (hY : 0 < Y) (h : Y < 18446744073709551616 ∨ X < Y) : DivOk X Y := by
  intro ao bo n m ca cb f h' w hn hm hr hs hf hh ff fh hX hY'
  refine divMod_small ao bo n m ca cb f h' w hn hm hr hs hf hh ff fh ?_
  rcases h with h | h
  · left
    have h1 : m ≤ 1 := by
      refine vf_len (f := h') (g := fun _ => Y) (m := 1) hh (lm_const (Int.le_of_lt hY) h 1) fh ?_
      rw [hY']; simp [vf, pw]
    have h2 : m ≠ 0 := fun h0 => by subst h0; simp [vf] at hY'; omega
    omega
  · right; omega

theorem dgi_hi {V H R c : Nat} (hV : V = H * 10 ^ c + R) (hR : R < 10 ^ c) (e : Nat) : dgi H e = dgi V (c + e) := by
  unfold dgi
  have : V / 10 ^ (c + e) = H / 10 ^ e := by
    rw [Nat.pow_add, ← Nat.div_div_eq_div_mul, hV]
    congr 1
    rw [Nat.add_comm, Nat.add_mul_div_right _ _ (Nat.pow_pos (by omega)), Nat.div_eq_of_lt hR]; omega
  rw [this]
theorem dgi_lo {V H R c : Nat} (hV : V = H * 10 ^ c + R) (e : Nat) (he : e < c) : dgi R e = dgi V e := by
  unfold dgi
  have h1 : 10 ^ c = 10 ^ e * (10 * 10 ^ (c - e - 1)) := by
    rw [← Nat.pow_succ', ← Nat.pow_add]; congr 1; omega
  have : V / 10 ^ e % 10 = R / 10 ^ e % 10 := by
    rw [hV, h1, ← Nat.mul_assoc, Nat.mul_comm H, Nat.mul_assoc, Nat.add_comm, Nat.add_mul_div_left _ _ (Nat.pow_pos (by omega))]
    rw [← Nat.mul_assoc, Nat.mul_comm H 10, Nat.mul_assoc, Nat.add_mul_mod_self_left]
  rw [this]

set_option maxRecDepth 100000 in
set_option maxHeartbeats 2000000 in
/-- putDigits: the digits of a number below the last base squared. -/
theorem putDigits_c (M : Int) (c : Nat) : ∀ (_ : ∀ j, j < c → ∀ X, 0 ≤ X → X ≤ M → DivOk X (tens j)) (g o L cap N : Nat) (t : Nat → Int) (ao : Option Addr) (n ca C : Nat) (V : Nat) (bo : Option Addr) (cb : Nat) (w : World) (_ : Blk .u8 5 w g N t) (_ : o + L ≤ N) (_ : N ≤ 140737488355328) (_ : L = 19 * 2 ^ c) (_ : L ≤ cap) (_ : cap ≤ 140737488355328)
    (_ : Num w (.slice ao n ca) C V) (_ : C + c ≤ 4398046511104) (_ : V < 10 ^ L) (_ : (V : Int) ≤ M) (_ : Bas w bo c) (_ : c ≤ cb) (_ : cb ≤ maxLen) (_ : c ≤ 30) (_ : Tab w) (_ : 5 < g),
    Calls Tryz.prog 132 #[.slice (some ⟨g, o, none⟩) L cap, .slice ao n ca, .slice bo c cb] w fun e w' => e = .returned (.tuple #[]) ∧ Only g w w' ∧
      ∃ t', Blk .u8 5 w' g N t' ∧ (∀ j, j < o ∨ o + L ≤ j → t' j = t j) ∧ (∀ j, j < L → t' (o + j) = dgi V (L - 1 - j)) := by
  induction c with
  | zero =>
    intro hdiv g o L cap N t ao n ca C V bo cb w hb ho hN hL hcap hcm hnum hC hV hVM hbas hcb hcbm hc30 htab hg
    simp at hL
    subst hL
    obtain ⟨ao', n', ca', f, hv, hr, ht, hl, hf, hn, hvf, _⟩ := hnum
    cases hv
    have hV64 : V < 18446744073709551616 := by have : 10 ^ 19 < 18446744073709551616 := by decide
                                               omega
    have hn1 : n ≤ 1 := by
      refine vf_len (f := f) (g := fun _ => (V : Int)) (m := 1) hl (lm_const (by omega) (by omega) 1) hf ?_
      rw [hvf]; simp [vf, pw]
    have he : ext f n 0 = V := by
      rcases (show n = 0 ∨ n = 1 by omega) with rfl | rfl
      · simp [vf] at hvf; rw [ext_out _ _ _ (by omega)]; omega
      · rw [ext_in _ _ _ (by omega)]; simpa [vf, pw] using hvf
    have c1 := limbAt_c ao n ca f 0 w (by omega) (by omega) hr
    rw [he] at c1
    have c2 := putPiece_c g o 19 cap N t V w hb ho hN (by omega) hcap hcm hV hV64 htab
    have C1 := hid c1; have C2 := hid c2
    clear c1 c2 hb hr ht hl hf hvf he hbas htab hdiv hV
    go_enter Tryz.func132, Tryz.ntmps132
    go_wp2_with fail
    refine C1.out.mono ?_
    rintro e w1 ⟨rfl, rfl⟩
    go_wp2_with fail
    refine C2.out.mono ?_
    rintro e w1 ⟨rfl, hrest⟩
    have HRest := hid hrest
    clear hrest
    go_wp2
    exact bodyPost_ret (v := .tuple #[]) (results_none rfl _ _ _) rfl ⟨rfl, HRest.out⟩
  | succ c ih =>
    intro hdiv g o L cap N t ao n ca C V bo cb w hb ho hN hL hcap hcm hnum hC hV hVM hbas hcb hcbm hc30 htab hg
    have IH := hid (ih (fun j hj => hdiv j (by omega)))
    obtain ⟨K, hK⟩ : ∃ K, K = 19 * 2 ^ c := ⟨_, rfl⟩
    have hLK : L = 2 * K := by rw [hL, hK, Nat.pow_succ]; omega
    have hKt : tens c = ((10 ^ K : Nat) : Int) := by rw [hK]; simp [tens]
    obtain ⟨ao', n', ca', f, hv, hr, ht, hl, hf, hn, hvf, _⟩ := hnum
    cases hv
    obtain ⟨b, u, arr, fr, rfl, hbt, hbc, hbn⟩ := hbas c (by omega)
    obtain ⟨a1, n1, c1, f1, rfl, hr1, ht1, hl1, hf1, hn1, hvf1, _⟩ := hbn
    have hn1b : n1 ≤ 1073741824 := Nat.le_trans hn1 (Nat.pow_le_pow_right (n := 2) (by omega) (show c ≤ 30 by omega))
    have cd := hdiv c (by omega) V (by omega) hVM ao a1 n n1 ca c1 f f1 w (by omega) (by omega) hr hr1 hl hl1 hf hf1 hvf hvf1
    rw [hvf, hvf1, hKt] at cd
    have CD := hid cd; have HB := hid hbas; have HBk := hid hb; have HT := hid htab; have HV := hid hV
    have HK := hid hK
    clear cd hbas hb htab hV hr ht hl hf hvf hr1 ht1 hl1 hf1 hvf1 hKt ih hdiv hK hL hbt
    have hK1 : 1 ≤ K := by rw [HK.out]; have := Nat.pow_pos (n := c) (show 0 < 2 by omega); omega
    subst hLK
    unfold maxLen at hcbm
    go_enter Tryz.func132, Tryz.ntmps132
    go_wp2_with fail
    refine CD.out.mono ?_
    rintro e w1 ⟨q1, k1, e1, fq, q2, k2, e2, fr', rfl, hres1, hres2, hdv, hr0, hr1⟩
    have hq0 := vf_nonneg hres1.lm
    obtain ⟨H, hH⟩ : ∃ H : Nat, vf fq k1 = H := ⟨(vf fq k1).toNat, by omega⟩
    obtain ⟨R, hR⟩ : ∃ R : Nat, vf fr' k2 = R := ⟨(vf fr' k2).toNat, by omega⟩
    rw [hH, hR] at hdv
    rw [hR] at hr1
    have hVn : V = H * 10 ^ K + R := by exact_mod_cast hdv
    have hRl : R < 10 ^ K := by exact_mod_cast hr1
    have hHl : H < 10 ^ K := by
      have := HV.out
      rw [hVn, show 2 * K = K + K by omega, Nat.pow_add] at this
      apply Nat.lt_of_not_le; intro h
      have := Nat.mul_le_mul_right (10 ^ K) h
      omega
    have hHM : (H : Int) ≤ M := by
      have h1 : H * 1 ≤ H * 10 ^ K := Nat.mul_le_mul_left H (Nat.pow_pos (by omega))
      have h2 : H ≤ V := by omega
      omega
    have hRM : (R : Int) ≤ M := by
      have h2 : R ≤ V := by omega
      omega
    have N1 := hid (show Num w1 (.slice q1 k1 e1) n (H : Int) by have := hres1.num (by omega); rw [hH] at this; exact this)
    have N2 := hid (show Num w1 (.slice q2 k2 e2) (n + 1) (R : Int) by have := hres2.num (by omega); rw [hR] at this; exact this)
    have hb1 := hres1.bel
    have HBk1 := hid (HBk.out.below hb1 HBk.out.lt)
    have HB1 := hid ((HB.out.below hb1).take (show c ≤ c + 1 by omega))
    have HT1 := hid (HT.out.below hb1 HT.out.lt)
    have hon1 : Only g w w1 := Only.of_below hb1
    have HVn := hid hVn; have HRl := hid hRl; have HHl := hid hHl
    clear hVn hRl hHl hdv hr1 hr0 hH hR hq0 hres1 hres2 hb1 HBk HB HT CD HV hbc
    have hcut : 2 * (K : Int) / 2 = K := by omega
    have hne1 : ¬ (K = cap) := by omega
    have hne2 : ¬ (cap = K) := by omega
    have hne3 : ¬ (cap - K = 0) := by omega
    have h2K : 2 * K - K = K := by omega
    have H2K := hid h2K
    clear h2K
    have CA := hid (fun W (h1 : Blk .u8 5 W g N t) (h2 : Num W (.slice q1 k1 e1) n (H : Int)) (h3 : Bas W (some ⟨b, 0, none⟩) c) (h4 : Tab W) => IH.out g o K cap N t q1 k1 e1 n H (some ⟨b, 0, none⟩) cb W h1 (by omega) hN HK.out (by omega) hcm h2 (by omega) HHl.out hHM h3 (by omega) (by unfold maxLen; omega) (by omega) h4 hg)
    have CB := hid (fun t W (h1 : Blk .u8 5 W g N t) (h2 : Num W (.slice q2 k2 e2) (n + 1) (R : Int)) (h3 : Bas W (some ⟨b, 0, none⟩) c) (h4 : Tab W) => IH.out g (o + K) (2 * K - K) (cap - K) N t q2 k2 e2 (n + 1) R (some ⟨b, 0, none⟩) cb W h1 (by omega) hN (by rw [H2K.out]; exact HK.out) (by omega) (by omega) h2 (by omega) (by rw [H2K.out]; exact HRl.out) hRM h3 (by omega) (by unfold maxLen; omega) (by omega) h4 hg)
    clear IH
    go_wp2_with fail
    go_region_with (go_at_call 132; refine (CA.out _ (by exact HBk1.out) (by exact N1.out) (by exact HB1.out) (by exact HT1.out)).mono ?_; rintro e w2 ⟨rfl, hon2, t2, hb2, he2, hd2⟩)
    all_goals
      have hon2' : Only g w1 w2 := (Only.refl g w1).drew.trans hon2
      obtain ⟨curx, hgx, _, _⟩ := id HBk1.out
      have N2' := hid (N2.out.only hon2' hgx (by decide))
      have HB2' := hid (HB1.out.only hon2' hgx (by decide) (by decide))
      have HT2' := hid (HT1.out.only hon2' hg)
      have HE2 := hid he2; have HD2 := hid hd2; have HBk2 := hid hb2
      clear he2 hd2 hb2 hgx hon2
      go_wp2_with fail
      go_region_with (go_at_call 132; refine (CB.out t2 _ (by exact HBk2.out) (by exact N2'.out) (by exact HB2'.out) (by exact HT2'.out)).mono ?_; rintro e w3 ⟨rfl, hon3, t3, hb3, he3, hd3⟩)
      all_goals
        have HE3 := hid he3; have HD3 := hid hd3; have HBk3 := hid hb3
        clear he3 hd3 hb3
        go_wp2
        refine bodyPost_end (v := .tuple #[]) (results_none rfl _ _ _) rfl ⟨rfl, (hon1.trans hon2').drew.trans hon3, t3, HBk3.out, fun j hj => ?_, fun j hj => ?_⟩
        · exact (HE3.out j (by omega)).trans (HE2.out j (by omega))
        · by_cases hjk : j < K
          · rw [HE3.out _ (by omega), HD2.out j hjk, dgi_hi HVn.out HRl.out]
            congr 1; omega
          · have e1 := HD3.out (j - K) (by omega)
            rw [show o + K + (j - K) = o + j by omega] at e1
            rw [e1, H2K.out, dgi_lo HVn.out _ (by omega)]
            congr 1; omega
end Go.Proofs.YtndiiknbkjlbiaaGreatDoor
namespace Go.Proofs.YtndiiknbkjlbiaaGreatDoor
open Go.ChangeShapes Go.WideShapes Go.ChangeAt Go.RowKit

theorem Tryz.own : ownKnob Tryz.prog.godebug = none := by kernel_rfl
theorem Tryz.laidOut : laidOutB Tryz.prog = true := by kernel_rfl
theorem Tryz.cellsU64 : Tryz.prog.cellsOf 83 = 1 := by kernel_rfl
theorem Tryz.read22 : Tryz.prog.readableRec 22 = true := by kernel_rfl
theorem Tryz.size22 : 22 < Tryz.prog.types.size := of_decide_eq_true (by kernel_rfl)

set_option maxRecDepth 100000 in
/-- An argument that is a list of limbs. -/
theorem view {H : Type} {enc : TypeId × Value → H} {W : World} {base : Nat} {v : Value} {d : DataW H} {p : List MemPlace} (hok : Value.okWide Tryz.prog W .any base 22 v) (h : DataW.Trod enc Tryz.prog W 0 (fun _ => true) true 22 v d p) :
    ∃ ao n cap f, v = .slice ao n cap ∧ Rd .u64 W ao n f ∧ Lm f n ∧ (ao = none → n = 0 ∧ cap = 0) ∧ n ≤ 9223372036854775807 := by
  obtain ⟨a0, len, cap, hv⟩ := okWide_slice Tryz.underlying22 hok
  subst hv
  obtain ⟨fuel, hf⟩ := h
  rcases open_ints Tryz.underlying22 Tryz.underlying83 Tryz.cellsU64 hf with ⟨hcs, hx⟩ | ⟨a, len', cap', zs, hcs, _, hl, hm, hz, hx, hcell, hwz⟩
  · simp [Value.cells] at hcs
    obtain ⟨rfl, rfl, rfl⟩ := hcs
    exact ⟨none, 0, 0, fun _ => 0, rfl, Rd.zero, fun j hj => by omega, fun _ => ⟨rfl, rfl⟩, by omega⟩
  · simp [Value.cells] at hcs
    obtain ⟨rfl, rfl, rfl⟩ := hcs
    simp only [if_true] at hz
    refine ⟨some a, len, cap, fun j => zs.getD j 0, rfl, fun j hj => ?_, fun j hj => ?_, (fun h => by cases h), by unfold maxLen at hm; omega⟩
    · obtain ⟨b, off, spot⟩ := a
      have hspot : spot = none := by simpa [Addr.add] using World.cell?_spot (hcell 0 (by omega))
      subst hspot
      exact ⟨b, off, rfl, by have := hcell j (by omega); rwa [addr_add] at this⟩
    · have hmem : zs.getD j 0 ∈ zs := by
        rw [List.getD_eq_getElem?_getD, List.getElem?_eq_getElem (by omega)]
        exact List.getElem_mem _
      have := bounds_u64 (hwz _ hmem)
      show 0 ≤ zs.getD j 0 ∧ zs.getD j 0 < 18446744073709551616
      omega

/-- The listed tables. -/
def tabs : List (String × DataW Unit) := Rows.ratSumsRow.laid
theorem pow10_datum : (Rows.laid_internal_strconv_uint64pow10 : DataW Unit) = Lib.tabData .u64 Lib.pow10Tab := by kernel_rfl
theorem tab_third {P : Program} {W : World} {n1 n2 name : String} {d1 d2 : DataW Unit} {k : IntKind} {zs : List Int} {rest : List (String × DataW Unit)} {g : Nat} {t e : TypeId} {n : Nat}
    (hg : P.globalNamed name = some g) (hty : (P.globals[g]?).map (·.type) = some t) (ht : P.underlying t = some (.array n e)) (he : P.underlying e = some (.int k)) (hce : P.cellsOf e = 1) (hct : P.cellsOf t = n)
    (h : laidMet P ((n1, d1) :: (n2, d2) :: (name, Lib.tabData k zs) :: rest) W) : Lib.TabIs P W name k zs := by
  obtain ⟨ps, hv, _⟩ := h
  obtain ⟨_, _, _, _, _, q1, _, _, _, _, hv2, _⟩ := hv
  obtain ⟨_, _, _, _, _, q2, _, _, _, _, hv3, _⟩ := hv2
  obtain ⟨g', t', cs, fuel, p, q, hg', ht', hvar, hd, _, _⟩ := hv3
  obtain rfl := Option.some.inj (hg.symm.trans hg')
  obtain rfl := Option.some.inj (hty.symm.trans ht')
  unfold Lib.TabIs
  rw [hvar, ← Lib.cells_of_tab ht he hce hct hd]
theorem tab_ty : (Tryz.prog.globals[5]?).map (·.type) = some 195 := by kernel_rfl
theorem tab_cells : Tryz.prog.cellsOf 195 = 20 := by kernel_rfl
theorem tab_of {W : World} (h : laidMetH Tryz.prog tabs W) : Tab W := by
  have h' : laidMet Tryz.prog (("math/bits.deBruijn32tab", Rows.laid_math_bits_deBruijn32tab) :: ("math/bits.deBruijn64tab", Rows.laid_math_bits_deBruijn64tab) :: ("internal/strconv.uint64pow10", Lib.tabData .u64 Lib.pow10Tab) :: [("unicode/utf8.acceptRanges", Rows.laid_unicode_utf8_acceptRanges), ("unicode/utf8.first", Rows.laid_unicode_utf8_first)]) W := by
    rw [← pow10_datum]; exact h
  exact tab_third tab_gl tab_ty Tryz.underlying195 Tryz.underlying83 Tryz.cellsU64 tab_cells h'

def cellOf : DataW Unit → List Value
  | .lit (.int k z) => [.int k z]
  | _ => []
def cells1 : DataW Unit → List Value
  | .agg l => l.flatMap cellOf
  | _ => []
def cells2 : DataW Unit → List Value
  | .agg l => l.flatMap cells1
  | _ => []
def setc (cs : List Value) : Obj → Obj
  | .cells _ t fr => .cells cs.toArray t fr
  | o => o
/-- The world with the tables as the program's text lays them. -/
def layTabs (w : World) : World := { w with heap := (((((w.heap.modify 6 (setc (cells1 Rows.laid_math_bits_deBruijn32tab))).modify 7 (setc (cells1 Rows.laid_math_bits_deBruijn64tab))).modify 5 (setc (cells1 Rows.laid_internal_strconv_uint64pow10))).modify 4 (setc (cells2 Rows.laid_unicode_utf8_acceptRanges))).modify 3 (setc (cells1 Rows.laid_unicode_utf8_first))) }
end Go.Proofs.YtndiiknbkjlbiaaGreatDoor
namespace Go.Proofs.YtndiiknbkjlbiaaGreatDoor
open Go.ChangeShapes Go.WideShapes Go.ChangeAt Go.RowKit

theorem Tryz.readW : Tryz.prog.readableRec 45 = true := by kernel_rfl
theorem Tryz.sizeW : 45 < Tryz.prog.types.size := of_decide_eq_true (by kernel_rfl)
theorem Tryz.cellsW : Tryz.prog.cellsOf 45 = 2 := by kernel_rfl
theorem Tryz.cellsB : Tryz.prog.cellsOf 4 = 1 := by kernel_rfl
theorem Tryz.cellsL : Tryz.prog.cellsOf 22 = 1 := by kernel_rfl

set_option maxRecDepth 100000 in
/-- A list of limbs inside an argument. -/
theorem viewL {H : Type} {enc : TypeId × Value → H} {W : World} {fuel : Nat} {v : Value} {x : DataW H × List MemPlace} (h : DataW.trod enc Tryz.prog W 0 (fun _ => true) true fuel 22 [v] = some x) :
    ∃ ao n cap f, v = .slice ao n cap ∧ Rd .u64 W ao n f ∧ Lm f n ∧ (ao = none → n = 0 ∧ cap = 0) ∧ n ≤ cap ∧ cap ≤ 9223372036854775807 := by
  rcases open_ints Tryz.underlying22 Tryz.underlying83 Tryz.cellsU64 h with ⟨hcs, hx⟩ | ⟨a, len', cap', zs, hcs, _, hl, hm, hz, hx, hcell, hwz⟩
  · simp at hcs
    subst hcs
    exact ⟨none, 0, 0, fun _ => 0, rfl, Rd.zero, fun j hj => by omega, fun _ => ⟨rfl, rfl⟩, by omega, by omega⟩
  · simp at hcs
    subst hcs
    simp only [if_true] at hz
    refine ⟨some a, len', cap', fun j => zs.getD j 0, rfl, fun j hj => ?_, fun j hj => ?_, (fun h => by cases h), hl, by unfold maxLen at hm; omega⟩
    · obtain ⟨b, off, spot⟩ := a
      have hspot : spot = none := by simpa [Addr.add] using World.cell?_spot (hcell 0 (by omega))
      subst hspot
      exact ⟨b, off, rfl, by have := hcell j (by omega); rwa [addr_add] at this⟩
    · have hmem : zs.getD j 0 ∈ zs := by
        rw [List.getD_eq_getElem?_getD, List.getElem?_eq_getElem (by omega)]
        exact List.getElem_mem _
      have := bounds_u64 (hwz _ hmem)
      show 0 ≤ zs.getD j 0 ∧ zs.getD j 0 < 18446744073709551616
      omega
set_option maxRecDepth 100000 in
/-- An argument that is a whole number. -/
theorem viewW {H : Type} {enc : TypeId × Value → H} {W : World} {base : Nat} {v : Value} {d : DataW H} {p : List MemPlace} (hok : Value.okWide Tryz.prog W .any base 45 v) (h : DataW.Trod enc Tryz.prog W 0 (fun _ => true) true 45 v d p) :
    ∃ s ao n cap f, v = .agg #[.bool s, .slice ao n cap] ∧ Rd .u64 W ao n f ∧ Lm f n ∧ (ao = none → n = 0 ∧ cap = 0) ∧ n ≤ cap ∧ cap ≤ 9223372036854775807 := by
  obtain ⟨cs, rfl, hsz⟩ := okWide_struct Tryz.underlying45 hok
  rw [Tryz.cellsW] at hsz
  obtain ⟨fuel, hf⟩ := h
  obtain ⟨y0, y1, k, hx, hl, h0, h1⟩ := trod_struct2 Tryz.underlying45 hf
  obtain ⟨l⟩ := cs
  match l, hsz with
  | [c0, c1], _ =>
    have h0' : DataW.trod enc Tryz.prog W 0 (fun _ => true) true k 4 [c0] = some y0 := h0
    have h1' : DataW.trod enc Tryz.prog W 0 (fun _ => true) true k 22 [c1] = some y1 := h1
    obtain ⟨s, hs, _⟩ := DataW.trod_bool Tryz.underlying4 h0'
    obtain ⟨ao, n, cap, f, rfl, hr, hlm, hnil, hc⟩ := viewL h1'
    simp at hs
    subst hs
    exact ⟨s, ao, n, cap, f, rfl, hr, hlm, hnil, hc⟩
end Go.Proofs.YtndiiknbkjlbiaaGreatDoor
namespace Go.Proofs.YtndiiknbkjlbiaaGreatDoor
open Go.RowKit

/-- The value of the first n limbs. -/
def pd : Nat → Int | 0 => 1 | n + 1 => 4294967296 * pd n
def vd (f : Nat → Int) : Nat → Int | 0 => 0 | n + 1 => vd f n + f n * pd n
/-- Each of the first n is a limb. -/
def Dg (f : Nat → Int) (n : Nat) : Prop := ∀ j, j < n → 0 ≤ f j ∧ f j < 4294967296
theorem pd_pos (n : Nat) : 0 < pd n := by induction n with | zero => decide | succ n ih => simp only [pd]; omega
theorem pd_succ (n : Nat) : pd (n + 1) = 4294967296 * pd n := rfl
theorem pd_add (m n : Nat) : pd (m + n) = pd m * pd n := by
  induction n with
  | zero => simp [pd]
  | succ n ih => rw [← Nat.add_assoc, pd_succ, ih, pd_succ]; grind
theorem vd_succ (f : Nat → Int) (n : Nat) : vd f (n + 1) = vd f n + f n * pd n := rfl
theorem vd_congr {f g : Nat → Int} {n : Nat} (h : ∀ j, j < n → f j = g j) : vd f n = vd g n := by
  induction n with
  | zero => rfl
  | succ n ih => rw [vd_succ, vd_succ, ih (fun j hj => h j (by omega)), h n (by omega)]
theorem Dg.mono {f n m} (h : Dg f n) (hm : m ≤ n) : Dg f m := fun j hj => h j (by omega)
theorem Dg.congr {f g : Nat → Int} {n : Nat} (h : Dg f n) (he : ∀ j, j < n → f j = g j) : Dg g n := fun j hj => by rw [← he j hj]; exact h j hj
theorem Dg.upd {f n} (h : Dg f n) {i : Nat} {v : Int} (hv : 0 ≤ v ∧ v < 4294967296) : Dg (upd f i v) n := fun j hj => by
  by_cases hji : j = i
  · subst hji; rw [upd_same]; exact hv
  · rw [upd_other _ _ _ _ hji]; exact h j hj
theorem Dg.sh {f n} (h : Dg f n) {o m : Nat} (hm : o + m ≤ n) : Dg (sh f o) m := fun j hj => h (o + j) (by omega)
theorem vd_nonneg {f : Nat → Int} {n : Nat} (h : Dg f n) : 0 ≤ vd f n := by
  induction n with
  | zero => simp [vd]
  | succ n ih =>
    have h1 := ih (h.mono (by omega))
    have h2 := Int.mul_nonneg (h n (by omega)).1 (Int.le_of_lt (pd_pos n))
    rw [vd_succ]; omega
theorem vd_lt {f : Nat → Int} {n : Nat} (h : Dg f n) : vd f n < pd n := by
  induction n with
  | zero => simp [vd, pd]
  | succ n ih =>
    have h1 := ih (h.mono (by omega))
    have h2 : (f n + 1) * pd n ≤ 4294967296 * pd n := Int.mul_le_mul_of_nonneg_right (by have := (h n (by omega)).2; omega) (Int.le_of_lt (pd_pos n))
    rw [Int.add_mul, Int.one_mul] at h2
    rw [vd_succ, pd_succ]; omega
/-- A number cut in two. -/
theorem vd_split (f : Nat → Int) (m n : Nat) : vd f (m + n) = vd f m + vd (sh f m) n * pd m := by
  induction n with
  | zero => simp [vd]
  | succ n ih => rw [← Nat.add_assoc, vd_succ, ih, vd_succ, pd_add, sh_at]; grind
theorem vd_zero {f : Nat → Int} {n : Nat} (h : ∀ j, j < n → f j = 0) : vd f n = 0 := by
  induction n with
  | zero => rfl
  | succ n ih => rw [vd_succ, ih (fun j hj => h j (by omega)), h n (by omega)]; simp
/-- Noughts at the end count nothing. -/
theorem vd_ext {f : Nat → Int} {m n : Nat} (hm : m ≤ n) (h : ∀ j, m ≤ j → j < n → f j = 0) : vd f n = vd f m := by
  obtain ⟨d, rfl⟩ := Nat.exists_eq_add_of_le hm
  rw [vd_split, vd_zero (f := sh f m) (fun j hj => h _ (by omega) (by omega))]; simp
theorem vd_form_ge {f : Nat → Int} {n : Nat} (h : Dg f n) (hf : Fm f n) (hn : 0 < n) : pd (n - 1) ≤ vd f n := by
  obtain ⟨m, rfl⟩ : ∃ m, n = m + 1 := ⟨n - 1, by omega⟩
  have h0 := vd_nonneg (h.mono (m := m) (by omega))
  have h1 := h m (by omega)
  have h2 : f m ≠ 0 := by rcases hf with h | h; omega; simpa using h
  have h3 : 1 * pd m ≤ f m * pd m := Int.mul_le_mul_of_nonneg_right (by omega) (Int.le_of_lt (pd_pos m))
  rw [vd_succ]; simp at h3 ⊢; omega
theorem pd_mono {m n : Nat} (h : m ≤ n) : pd m ≤ pd n := by
  induction n with
  | zero => obtain rfl : m = 0 := by omega
            exact Int.le_refl _
  | succ n ih =>
    by_cases hm : m = n + 1
    · subst hm; exact Int.le_refl _
    · have := ih (by omega); have := pd_pos n; rw [pd_succ]; omega
/-- One number, one list (of one length). -/
theorem vd_inj_same {f g : Nat → Int} {n : Nat} (hf : Dg f n) (hg : Dg g n) (h : vd f n = vd g n) : ∀ j, j < n → f j = g j := by
  induction n with
  | zero => intro j hj; omega
  | succ n ih =>
    have a1 := vd_nonneg (hf.mono (m := n) (by omega)); have a2 := vd_lt (hf.mono (m := n) (by omega))
    have b1 := vd_nonneg (hg.mono (m := n) (by omega)); have b2 := vd_lt (hg.mono (m := n) (by omega))
    rw [vd_succ, vd_succ] at h
    have hp := pd_pos n
    have e : f n = g n := by
      rcases Int.lt_trichotomy (f n) (g n) with hl | hl | hl
      · have : (f n + 1) * pd n ≤ g n * pd n := Int.mul_le_mul_of_nonneg_right (by omega) (Int.le_of_lt hp)
        rw [Int.add_mul, Int.one_mul] at this; omega
      · exact hl
      · have : (g n + 1) * pd n ≤ f n * pd n := Int.mul_le_mul_of_nonneg_right (by omega) (Int.le_of_lt hp)
        rw [Int.add_mul, Int.one_mul] at this; omega
    have hr := ih (hf.mono (by omega)) (hg.mono (by omega)) (by rw [e] at h; omega)
    intro j hj
    by_cases hjn : j = n
    · subst hjn; exact e
    · exact hr j (by omega)
theorem vd_len {f g : Nat → Int} {n m : Nat} (hf : Dg f n) (hg : Dg g m) (ff : Fm f n) (h : vd f n ≤ vd g m) : n ≤ m := by
  apply Nat.le_of_not_lt
  intro hlt
  have h1 := vd_form_ge hf ff (by omega)
  have h2 := vd_lt hg
  have h3 := pd_mono (m := m) (n := n - 1) (by omega)
  omega
/-- One number, one list in form. -/
theorem vd_inj {f g : Nat → Int} {n m : Nat} (hf : Dg f n) (hg : Dg g m) (ff : Fm f n) (fg : Fm g m) (h : vd f n = vd g m) : n = m ∧ ∀ j, j < n → f j = g j := by
  have e : n = m := Nat.le_antisymm (vd_len hf hg ff (by omega)) (vd_len hg hf fg (by omega))
  subst e
  exact ⟨rfl, vd_inj_same hf hg h⟩
/-- The trimmed list. -/
theorem trim_vald {f : Nat → Int} {m n : Nat} (hm : m ≤ n) (hz : ∀ j, m ≤ j → j < n → f j = 0) : vd f m = vd f n := (vd_ext hm hz).symm
end Go.Proofs.YtndiiknbkjlbiaaGreatDoor
namespace Go.Proofs.YtndiiknbkjlbiaaGreatDoor
open Go.RowKit

set_option maxHeartbeats 400000 in
theorem rform_c (ao : Option Addr) (n cap : Nat) (f : Nat → Int) (w : World) (hm : n ≤ 9223372036854775807) (hr : Rd .u64 w ao n f) :
    Calls Tryz.prog 60 #[.slice ao n cap] w fun e w' => e = .returned (.bool (fmB f n)) ∧ w' = w := by
  by_cases h0 : n = 0
  · subst h0
    have e : fmB f 0 = true := by simp [fmB]
    go_enter Tryz.func60, Tryz.ntmps60
    go_wp2
    go_ret
    exact ⟨by rw [e]; rfl, rfl⟩
  · obtain ⟨b, o, rfl⟩ := hr.at (by omega)
    obtain ⟨x, hx⟩ : ∃ x, f (n - 1) = x := ⟨_, rfl⟩
    have hc : w.cell? ⟨b, o + (n - 1), none⟩ = some (.int .u64 x) := by rw [← hx]; exact hr.cell (by omega)
    have h1 : ((n : Int) == 0) = false := by simp; omega
    have e : fmB f n = (x != 0) := by simp [fmB, h0, hx, bne]; rfl
    have E := hid e
    clear hr hx e
    go_enter Tryz.func60, Tryz.ntmps60
    go_wp2
    go_ret
    exact ⟨by rw [E.out]; rfl, rfl⟩

set_option maxHeartbeats 400000 in
/-- Low: the digits without noughts at the end. -/
theorem low_c (ao : Option Addr) (n cap : Nat) (f : Nat → Int) (w : World) (hc : n ≤ cap) (hm : cap ≤ 9223372036854775807) (hr : Rd .u64 w ao n f) (hnil : ao = none → cap = 0) :
    Calls Tryz.prog 97 #[.slice ao n cap] w fun e w' => w' = w ∧ ∃ m, m ≤ n ∧ (∀ j, m ≤ j → j < n → f j = 0) ∧ Fm f m ∧ e = .returned (.slice ao m cap) := by
  go_enter Tryz.func97, Tryz.ntmps97
  go_wp2
  go_loop [3] (fun t => ∃ m : Nat, m ≤ n ∧ t = .int .i64 m ∧ Hid (∀ j, m ≤ j → j < n → f j = 0)) (fun t => (intOf t).toNat)
  case atStart => exact ⟨n, Nat.le_refl _, rfl, fun j h1 h2 => by omega⟩
  case round =>
    obtain ⟨m, hmn, rfl, HZ⟩ := hrel
    by_cases h0 : 0 < m
    · obtain ⟨b, o, rfl⟩ := hr.at (by omega)
      obtain ⟨x, hx⟩ : ∃ x, f (m - 1) = x := ⟨_, rfl⟩
      have hcell : w.cell? ⟨b, o + (m - 1), none⟩ = some (.int .u64 x) := by rw [← hx]; exact hr.cell (by omega)
      have HX : Hid (f (m - 1) = x) := hx
      clear hx hr
      by_cases hx0 : x = 0
      · subst hx0
        go_wp2
        go_round
        case rel =>
          refine ⟨m - 1, by omega, by go_num, fun j h1 h2 => ?_⟩
          by_cases hj : j = m - 1
          · rw [hj]; exact HX.out
          · exact HZ.out j (by omega) h2
        case measure => simp [intOf]; omega
      · have hx1 : (x == 0) = false := by simp [hx0]
        go_wp2
        go_ret
        exact ⟨rfl, m, hmn, HZ.out, .inr (by rw [HX.out]; exact hx0), rfl⟩
    · have h00 : m = 0 := by omega
      subst h00
      cases ao with
      | none =>
        obtain rfl : cap = 0 := hnil rfl
        go_wp2
        go_ret
        exact ⟨rfl, 0, hmn, HZ.out, .inl rfl, rfl⟩
      | some ad =>
        clear hnil
        go_wp2
        go_ret
        exact ⟨rfl, 0, hmn, HZ.out, .inl rfl, rfl⟩

/-- Two lists are alike. -/
def Alk (n m : Nat) (f g : Nat → Int) : Prop := n = m ∧ ∀ j, j < n → f j = g j

set_option maxHeartbeats 800000 in
/-- Same: are two lists alike? -/
theorem same_c (ao bo : Option Addr) (n m ca cb : Nat) (f g : Nat → Int) (w : World) (hm : n ≤ 140737488355328) (hm' : m ≤ 140737488355328) (hr : Rd .u64 w ao n f) (hs : Rd .u64 w bo m g) :
    Calls Tryz.prog 37 #[.slice ao n ca, .slice bo m cb] w fun e w' => (∃ q, w' = w.drewN q) ∧ ∃ b, e = .returned (.bool b) ∧ (b = true ↔ Alk n m f g) := by
  by_cases hnm : n = m
  · subst hnm
    have h1 : ((n : Int) != n) = false := by simp
    go_enter Tryz.func37, Tryz.ntmps37
    go_wp2
    go_loopw [13] (fun t wr => ∃ i : Nat, i ≤ n ∧ t = .int .i64 i ∧ Hid (∀ j, j < i → f j = g j) ∧ ∃ q, wr = w.drewN q) (fun t _ => n - (intOf t).toNat)
    case atStart => exact ⟨0, by omega, rfl, fun j h1 => by omega, 0, rfl⟩
    case round =>
      obtain ⟨i, hin, rfl, HE, q, rfl⟩ := hrel
      by_cases hlt : i < n
      · obtain ⟨b, o, rfl⟩ := hr.at (by omega)
        obtain ⟨b', o', rfl⟩ := hs.at (by omega)
        obtain ⟨x, hx⟩ : ∃ x, f i = x := ⟨_, rfl⟩
        obtain ⟨y, hy⟩ : ∃ y, g i = y := ⟨_, rfl⟩
        have hca : w.cell? ⟨b, o + i, none⟩ = some (.int .u64 x) := by rw [← hx]; exact hr.cell (by omega)
        have hcb : w.cell? ⟨b', o' + i, none⟩ = some (.int .u64 y) := by rw [← hy]; exact hs.cell (by omega)
        have HX : Hid (f i = x) := hx
        have HY : Hid (g i = y) := hy
        clear hx hy hr hs
        by_cases hxy : x = y
        · subst hxy
          have hne : (x != x) = false := by simp
          go_wp2
          go_quiet (fail)
          go_wp2
          go_roundw
          case rel =>
            refine ⟨i + 1, by omega, by go_num, fun j h1 => ?_, _, rfl⟩
            by_cases hj : j = i
            · rw [hj]; exact HX.out.trans HY.out.symm
            · exact HE.out j (by omega)
          case measure => simp [intOf]; omega
        · have hne : (x != y) = true := by simp [hxy]
          go_wp2
          go_quiet (fail)
          go_wp2
          go_ret
          refine ⟨⟨_, by (repeat rw [World.drewN_drewN]) <;> rfl⟩, false, rfl, ⟨fun h => (by cases h), fun h => ?_⟩⟩
          have := h.2 i hlt
          rw [HX.out, HY.out] at this
          exact absurd this hxy
      · have hi : i = n := by omega
        subst hi
        go_wp2
        go_ret
        exact ⟨⟨_, rfl⟩, true, rfl, ⟨fun _ => ⟨rfl, HE.out⟩, fun _ => rfl⟩⟩
  · have h1 : ((n : Int) != m) = true := by simp; omega
    go_enter Tryz.func37, Tryz.ntmps37
    go_wp2
    go_ret
    exact ⟨⟨0, rfl⟩, false, rfl, ⟨fun h => (by cases h), fun h => absurd h.1 hnm⟩⟩
end Go.Proofs.YtndiiknbkjlbiaaGreatDoor
namespace Go.Proofs.YtndiiknbkjlbiaaGreatDoor
open Go.RowKit

set_option maxRecDepth 100000 in
set_option maxHeartbeats 400000 in
/-- Twin: a list of its own. -/
theorem twin_c (ao : Option Addr) (n cap : Nat) (f : Nat → Int) (w : World) (hn : n ≤ 1048576) (hr : Rd .u64 w ao n f) (hnil : ao = none → n = 0 ∧ cap = 0) :
    Calls Tryz.prog 46 #[.slice ao n cap] w fun e w' => ∃ ao' cap', e = .returned (.slice ao' n cap') ∧ Below w.heap.size w w' ∧ Rd .u64 w' ao' n f ∧ Own .u64 83 w' w.heap.size (.slice ao' n cap') n f := by
  cases ao with
  | none =>
    obtain ⟨rfl, rfl⟩ := hnil rfl
    go_enter Tryz.func46, Tryz.ntmps46
    obtain ⟨i0, hi, hz0, hz1, hz2⟩ := info_parts Tryz.infoU64
    go_wp2_with (at_builtin; refine wpList_append_own_none rfl (.tmp 4) (.tmp 5) 22 rfl w.heap.size 83 i0 1 Tryz.underlying22 hi (.slice none 0 0) 0 [] rfl (World.ownsRow_nil _ _ _ _) rfl ?_)
    go_ret
    exact ⟨none, 0, rfl, Below.refl _ _, Rd.zero, own_nil _ _ _ _ _⟩
  | some ad =>
    clear hnil
    have HR := hid hr
    clear hr
    go_enter Tryz.func46, Tryz.ntmps46
    obtain ⟨i0, hi, hz0, hz1, hz2⟩ := info_parts Tryz.infoU64
    go_wp2_with (at_builtin; refine wpList_append_own w rfl (.tmp 4) (.tmp 5) 22 rfl w.heap.size 83 i0 (.int .u64 0) 1 8 Tryz.underlying22 hi hz0 hz1 hz2 rfl (by decide) (.slice none 0 0) 0 [] rfl (World.ownsRow_nil _ _ _ _) ad n cap (lst .u64 f n) rfl (by rw [lst_length, Nat.mul_one]) ?c1 (lst_one _ _ _) ?c2 ?c3 (Nat.le_refl _) ?_)
    case c1 =>
      intro j u hu
      obtain ⟨hj, rfl⟩ := lst_getE hu
      obtain ⟨b, o, e, hc⟩ := HR.out j hj
      cases e
      rw [addr_add]; exact hc
    case c2 => unfold maxLen; omega
    case c3 => omega
    intro v' w' hown hgr _
    have hown' : Own .u64 83 w' w.heap.size v' n f := hown
    have hbel : Below w.heap.size w w' := (Below.refl _ _).grown hgr (Nat.le_refl _) (fun k h => by simp [Value.ownBlock] at h)
    have hs := hown'.shape
    obtain ⟨ao', cap', hv, hcc, hnn, hml, hrd, hlt⟩ := hs
    rw [hv] at hown' ⊢
    clear hown hgr hv
    have HO := hid hown'
    clear hown'
    go_wp2
    go_ret
    exact ⟨ao', cap', rfl, hbel, hrd, HO.out⟩

/-- The two digits of a limb. -/
def two32 (x : Int) : Nat → Int := fun j => if j = 0 then x % 4294967296 else x / 4294967296
/-- The digits of limbs. -/
def dig (f : Nat → Int) : Nat → Int := fun j => if j % 2 = 0 then f (j / 2) % 4294967296 else f (j / 2) / 4294967296
theorem dig_cat (f : Nat → Int) (k : Nat) : ∀ j, j < 2 * k + 2 → cat (dig f) (2 * k) (two32 (f k)) j = dig f j := by
  intro j hj
  by_cases h : j < 2 * k
  · exact cat_in h
  · rw [cat_out (by omega)]
    by_cases h2 : j = 2 * k
    · subst h2
      have e1 : 2 * k - 2 * k = 0 := by omega
      have e2 : 2 * k / 2 = k := by omega
      have e3 : 2 * k % 2 = 0 := by omega
      simp [two32, dig]
    · obtain rfl : j = 2 * k + 1 := by omega
      have e1 : 2 * k + 1 - 2 * k = 1 := by omega
      have e2 : (2 * k + 1) / 2 = k := by omega
      have e3 : (2 * k + 1) % 2 = 1 := by omega
      simp [two32, dig, e1, e2, e3]
theorem pd_two (k : Nat) : pd (2 * k) = pw k := by
  induction k with
  | zero => rfl
  | succ k ih =>
    have e : 2 * (k + 1) = 2 * k + 1 + 1 := by omega
    rw [e, pd_succ, pd_succ, pw_succ, ih]; omega
theorem dig_lm {f : Nat → Int} {n : Nat} (h : Lm f n) : Dg (dig f) (2 * n) := by
  intro j hj
  have := h (j / 2) (by omega)
  unfold dig
  split <;> omega
theorem dig_val (f : Nat → Int) (n : Nat) : vd (dig f) (2 * n) = vf f n := by
  induction n with
  | zero => rfl
  | succ k ih =>
    have e : 2 * (k + 1) = 2 * k + 1 + 1 := by omega
    have e2 : (2 * k + 1) / 2 = k := by omega
    have e3 : (2 * k + 1) % 2 = 1 := by omega
    have e4 : 2 * k / 2 = k := by omega
    have e5 : 2 * k % 2 = 0 := by omega
    have a1 : dig f (2 * k) = f k % 4294967296 := by simp [dig]
    have a2 : dig f (2 * k + 1) = f k / 4294967296 := by simp [dig, e2, e3]
    rw [e, vd_succ, vd_succ, ih, vf_succ, pd_succ, pd_two, a1, a2]
    have e6 : f k = 4294967296 * (f k / 4294967296) + f k % 4294967296 := by omega
    have e7 : f k * pw k = (4294967296 * (f k / 4294967296) + f k % 4294967296) * pw k := by rw [← e6]
    rw [e7]
    grind

theorem rd_new2 (w : World) (e : TypeId) (x : Int) : Rd .u64 (w.alloc (.cells #[.int .u64 (x % 4294967296), .int .u64 (x / 4294967296)] e)) (some ⟨w.heap.size, 0, none⟩) 2 (two32 x) :=
  Rd.mk (fun j hj => by
    rw [Nat.zero_add, World.cell?_alloc_new]
    rcases (show j = 0 ∨ j = 1 by omega) with rfl | rfl <;> simp [two32])

set_option maxRecDepth 100000 in
set_option maxHeartbeats 1000000 in
/-- From: the digits of limbs. -/
theorem fromNew_c (ao : Option Addr) (n cap : Nat) (f : Nat → Int) (w : World) (hn : n ≤ 1048576) (hr : Rd .u64 w ao n f) (hf : Lm f n) :
    Calls Tryz.prog 62 #[.slice ao n cap] w fun e w' => ∃ ao' m cap', e = .returned (.slice ao' m cap') ∧ (∀ a, ao' = some a → w.heap.size ≤ a.block) ∧ m ≤ cap' ∧ cap' ≤ 9223372036854775807 ∧ Below w.heap.size w w' ∧ Rd .u64 w' ao' m (dig f) ∧ m ≤ 2 * n ∧ (ao' = none → m = 0) ∧ Dg (dig f) m ∧ Fm (dig f) m ∧ vd (dig f) m = vf f n := by
  have HR := hid hr
  have HF := hid hf
  clear hr hf
  obtain ⟨i0, hi, hz0, hz1, hz2⟩ := info_parts Tryz.infoU64
  go_enter Tryz.func62, Tryz.ntmps62
  go_wp2_with (at_make; refine wpList_make_own w rfl (.const (.int .i64 0)) (.tmp 8) 22 rfl w.heap.size 83 i0 (.int .u64 0) 1 Tryz.underlying22 hi hz0 hz1 .i64 .i64 (2 * (n : Int)) (2 * n) rfl rfl (by omega) (by rw [hz2]; omega) (by unfold maxLen; omega) (Nat.le_refl _) ?_; intro w1 hown1 hgr1)
  have hb1 : Below w.heap.size w w1 := (Below.refl _ _).grown hgr1 (Nat.le_refl _) (fun k h => by cases h)
  have ho1 : Own .u64 83 w1 w.heap.size (.slice (some ⟨w.heap.size, 0, none⟩) 0 (2 * n)) 0 (dig f) := hown1
  clear hown1 hgr1
  have HO1 := hid ho1
  clear ho1
  go_loopw [3, 12] (fun v t wr => ∃ k : Nat, k ≤ n ∧ t = .int .i64 k ∧ Below w.heap.size w wr ∧ Hid (Own .u64 83 wr w.heap.size v (2 * k) (dig f))) (fun _ t _ => n - (intOf t).toNat)
  case atStart => exact ⟨0, by omega, rfl, hb1, HO1.out⟩
  case round =>
    clear hb1 HO1
    obtain ⟨k, hk, rfl, hbel, HO⟩ := hrel
    by_cases hlt : k < n
    · have hr := HR.out
      obtain ⟨b, o, rfl⟩ := hr.at (by omega)
      obtain ⟨x, hx⟩ : ∃ x, f k = x := ⟨_, rfl⟩
      have hcell : wr.cell? ⟨b, o + k, none⟩ = some (.int .u64 x) := by rw [← hx]; exact (hr.below hbel (Nat.le_refl _)).cell hlt
      obtain ⟨x0, x1⟩ := HF.out k hlt
      rw [hx] at x0 x1
      have HX := hid hx
      clear hx hr
      go_wp2_with (at_builtin; refine wpList_append_own_list .u64 _ rfl (.tmp 16) (.tmp 21) 22 rfl w.heap.size 83 8 Tryz.underlying22 Tryz.infoU64 _ (2 * k) (dig f) rfl (Own.alloc HO.out _) wr.heap.size 0 2 2 (two32 x) rfl (rd_new2 wr _ x) ?c1 ?c2 ?c3 ?_)
      case c1 => unfold maxLen; omega
      case c2 => omega
      case c3 => have := hbel.size; simp; omega
      intro v' w' hown hgr
      have hown2 : Own .u64 83 w' w.heap.size v' (2 * (k + 1)) (dig f) := (show Own .u64 83 w' w.heap.size v' (2 * k + 2) _ from hown).congr (fun j hj => by rw [← HX.out]; exact dig_cat f k j hj)
      have hbel2 : Below w.heap.size w w' := (hbel.alloc hbel.size _).grown hgr (by have := hbel.size; simp; omega) (fun k h => (Own.ge HO.out k h))
      have HO2 := hid hown2
      clear hown hgr hown2 HO
      go_wp2
      go_roundw
      case rel => exact ⟨k + 1, by omega, by go_num, hbel2, HO2.out⟩
      case measure => simp [intOf]; omega
    · have hkn : k = n := by omega
      subst hkn
      obtain ⟨ao', cap', hv, hcc, hnn, hml, hrd, hlt2⟩ := HO.out.shape
      unfold maxLen at hml
      subst hv
      have HNew := hid (fun a ha => (hlt2 a ha).1)
      clear HO hlt2
      go_wp2_with fail
      refine (low_c ao' (2 * k) cap' (dig f) wr hcc hml hrd hnn).mono ?_
      rintro e w2 ⟨rfl, m, hm, hz, hfm, rfl⟩
      have HZ := hid hz
      have HFM := hid hfm
      clear hz hfm
      go_wp2
      go_ret
      refine ⟨ao', m, cap', rfl, HNew.out, by omega, hml, hbel, hrd.take hm, hm, fun h => ?_, (dig_lm HF.out).mono hm, HFM.out, ?_⟩
      · have := hnn h; omega
      · rw [trim_vald hm HZ.out]; exact dig_val f k

theorem from_c (ao : Option Addr) (n cap : Nat) (f : Nat → Int) (w : World) (hn : n ≤ 1048576) (hr : Rd .u64 w ao n f) (hf : Lm f n) :
    Calls Tryz.prog 62 #[.slice ao n cap] w fun e w' => ∃ ao' m cap', e = .returned (.slice ao' m cap') ∧ Below w.heap.size w w' ∧ Rd .u64 w' ao' m (dig f) ∧ m ≤ 2 * n ∧ (ao' = none → m = 0) ∧ Dg (dig f) m ∧ Fm (dig f) m ∧ vd (dig f) m = vf f n :=
  (fromNew_c ao n cap f w hn hr hf).mono (fun _ _ ⟨a, m, c, h1, _, _, _, h2⟩ => ⟨a, m, c, h1, h2⟩)

/-- The limbs of digits. -/
def lim (d : Nat → Int) (n : Nat) : Nat → Int := fun j => ext d n (2 * j) + 4294967296 * ext d n (2 * j + 1)
theorem ext_dg {d : Nat → Int} {n : Nat} (h : Dg d n) (j : Nat) : 0 ≤ ext d n j ∧ ext d n j < 4294967296 := by
  by_cases hj : j < n
  · rw [ext_in _ _ _ hj]; exact h j hj
  · rw [ext_out _ _ _ (by omega)]; omega
theorem lim_lm {d : Nat → Int} {n : Nat} (h : Dg d n) (k : Nat) : Lm (lim d n) k := fun j _ => by
  have a := ext_dg h (2 * j); have b := ext_dg h (2 * j + 1)
  unfold lim; omega
theorem lim_val (d : Nat → Int) (n k : Nat) : vf (lim d n) k = vd (ext d n) (2 * k) := by
  induction k with
  | zero => rfl
  | succ k ih =>
    have e : 2 * (k + 1) = 2 * k + 1 + 1 := by omega
    rw [e, vd_succ, vd_succ, ← ih, vf_succ, pd_succ, pd_two, lim]; grind
theorem vd_ext_list (h : Nat → Int) (m n : Nat) (hn : m ≤ n) : vd (ext h m) n = vd h m := by
  rw [vd_ext hn (fun j h1 _ => ext_out h m j h1)]
  exact vd_congr (fun j hj => ext_in h m j hj)
theorem lim_fm {d : Nat → Int} {n k : Nat} (h : Dg d n) (hf : Fm d n) (h1 : n ≤ 2 * k) (h2 : 2 * k ≤ n + 1) : Fm (lim d n) k := by
  by_cases h0 : n = 0
  · left; omega
  · right
    have hd : d (n - 1) ≠ 0 := by rcases hf with h | h; omega; exact h
    have a := ext_dg h (2 * (k - 1)); have b := ext_dg h (2 * (k - 1) + 1)
    unfold lim
    rcases (show n - 1 = 2 * (k - 1) ∨ n - 1 = 2 * (k - 1) + 1 by omega) with e | e
    · have := ext_in d n (2 * (k - 1)) (by omega)
      rw [← e] at this a ⊢
      omega
    · have := ext_in d n (2 * (k - 1) + 1) (by omega)
      rw [← e] at this b ⊢
      omega
theorem cat_one {f : Nat → Int} {k : Nat} {x : Int} (h : f k = x) : ∀ j, j < k + 1 → cat f k (fun _ => x) j = f j := by
  intro j hj
  by_cases h1 : j < k
  · exact cat_in h1
  · obtain rfl : j = k := by omega
    rw [cat_out (Nat.le_refl _), h]

set_option maxRecDepth 100000 in
set_option maxHeartbeats 1000000 in
/-- To: the limbs of digits. -/
theorem toOwn_c (ao : Option Addr) (n cap : Nat) (d : Nat → Int) (w : World) (hn : n ≤ 1048576) (hr : Rd .u64 w ao n d) (hd : Dg d n) (hfm : Fm d n) :
    Calls Tryz.prog 83 #[.slice ao n cap] w fun e w' => ∃ ao' m cap' f, e = .returned (.slice ao' m cap') ∧ Own .u64 83 w' w.heap.size (.slice ao' m cap') m f ∧ Below w.heap.size w w' ∧ Rd .u64 w' ao' m f ∧ m ≤ n ∧ Lm f m ∧ Fm f m ∧ vf f m = vd d n := by
  have HR := hid hr
  have HD := hid hd
  have HFM := hid hfm
  clear hr hd hfm
  go_enter Tryz.func83, Tryz.ntmps83
  go_wp2
  go_loopw [3, 4] (fun v t wr => ∃ k : Nat, 2 * k ≤ n + 1 ∧ t = .int .i64 (2 * k) ∧ Below w.heap.size w wr ∧ Hid (Own .u64 83 wr w.heap.size v k (lim d n))) (fun _ t _ => n + 2 - (intOf t).toNat)
  case atStart => exact ⟨0, by omega, rfl, Below.refl _ _, own_nil _ _ _ _ _⟩
  case round =>
    obtain ⟨k, hk, rfl, hbel, HO⟩ := hrel
    by_cases hlt : 2 * k < n
    · have hr := HR.out
      obtain ⟨b, o, rfl⟩ := hr.at (by omega)
      obtain ⟨x, hx⟩ : ∃ x, d (2 * k) = x := ⟨_, rfl⟩
      have hcell : wr.cell? ⟨b, o + 2 * k, none⟩ = some (.int .u64 x) := by rw [← hx]; exact (hr.below hbel (Nat.le_refl _)).cell hlt
      obtain ⟨x0, x1⟩ := HD.out (2 * k) hlt
      rw [hx] at x0 x1
      have HX := hid hx
      clear hx
      by_cases hlt2 : 2 * k + 1 < n
      · obtain ⟨y, hy⟩ : ∃ y, d (2 * k + 1) = y := ⟨_, rfl⟩
        have hcell2 : wr.cell? ⟨b, o + (2 * k + 1), none⟩ = some (.int .u64 y) := by rw [← hy]; exact (hr.below hbel (Nat.le_refl _)).cell hlt2
        obtain ⟨y0, y1⟩ := HD.out (2 * k + 1) hlt2
        rw [hy] at y0 y1
        have HY := hid hy
        clear hy hr
        have hl : lim d n k = x + y * 4294967296 := by unfold lim; rw [ext_in _ _ _ hlt, ext_in _ _ _ hlt2, HX.out, HY.out]; omega
        have HLm := hid hl
        clear hl
        go_wp2_with (at_builtin; refine wpList_append_own_list .u64 _ rfl (.tmp 29) (.tmp 31) 22 rfl w.heap.size 83 8 Tryz.underlying22 Tryz.infoU64 _ k (lim d n) rfl (Own.alloc HO.out _) wr.heap.size 0 1 1 (fun _ => x + y * 4294967296) rfl (rd_new1 wr _ _) ?c1 ?c2 ?c3 ?_)
        case c1 => unfold maxLen; omega
        case c2 => omega
        case c3 => have := hbel.size; simp; omega
        intro v' w' hown hgr
        have hown2 : Own .u64 83 w' w.heap.size v' (k + 1) (lim d n) := Own.congr hown (cat_one HLm.out)
        have hbel2 : Below w.heap.size w w' := (hbel.alloc hbel.size _).grown hgr (by have := hbel.size; simp; omega) (fun k h => (Own.ge HO.out k h))
        have HO2 := hid hown2
        clear hown hgr hown2 HO
        go_wp2
        go_roundw
        case rel => exact ⟨k + 1, by omega, by go_num, hbel2, HO2.out⟩
        case measure => simp [intOf]; omega
      · have hl : lim d n k = x := by unfold lim; rw [ext_in _ _ _ hlt, ext_out _ _ _ (by omega), HX.out]; omega
        have HLm := hid hl
        clear hl hr
        go_wp2_with (at_builtin; refine wpList_append_own_list .u64 _ rfl (.tmp 29) (.tmp 31) 22 rfl w.heap.size 83 8 Tryz.underlying22 Tryz.infoU64 _ k (lim d n) rfl (Own.alloc HO.out _) wr.heap.size 0 1 1 (fun _ => x) rfl (rd_new1 wr _ _) ?c1 ?c2 ?c3 ?_)
        case c1 => unfold maxLen; omega
        case c2 => omega
        case c3 => have := hbel.size; simp; omega
        intro v' w' hown hgr
        have hown2 : Own .u64 83 w' w.heap.size v' (k + 1) (lim d n) := Own.congr hown (cat_one HLm.out)
        have hbel2 : Below w.heap.size w w' := (hbel.alloc hbel.size _).grown hgr (by have := hbel.size; simp; omega) (fun k h => (Own.ge HO.out k h))
        have HO2 := hid hown2
        clear hown hgr hown2 HO
        go_wp2
        go_roundw
        case rel => exact ⟨k + 1, by omega, by go_num, hbel2, HO2.out⟩
        case measure => simp [intOf]; omega
    · obtain ⟨ao', cap', hv, hcc, hnn, hml, hrd, hlt2⟩ := HO.out.shape
      subst hv
      clear hlt2
      go_wp2
      go_ret
      exact ⟨ao', k, cap', _, rfl, HO.out, hbel, hrd, by omega, lim_lm HD.out k, lim_fm HD.out HFM.out (by omega) hk, by rw [lim_val, vd_ext_list _ _ _ (by omega)]⟩
theorem to_c (ao : Option Addr) (n cap : Nat) (d : Nat → Int) (w : World) (hn : n ≤ 1048576) (hr : Rd .u64 w ao n d) (hd : Dg d n) (hfm : Fm d n) :
    Calls Tryz.prog 83 #[.slice ao n cap] w fun e w' => ∃ ao' m cap' f, e = .returned (.slice ao' m cap') ∧ Below w.heap.size w w' ∧ Rd .u64 w' ao' m f ∧ m ≤ n ∧ Lm f m ∧ Fm f m ∧ vf f m = vd d n :=
  (toOwn_c ao n cap d w hn hr hd hfm).mono (fun _ _ ⟨a, m, c, f, h1, _, h2⟩ => ⟨a, m, c, f, h1, h2⟩)
end Go.Proofs.YtndiiknbkjlbiaaGreatDoor
namespace Go.Proofs.YtndiiknbkjlbiaaGreatDoor
open Go.RowKit

theorem dcmp_step {f g : Nat → Int} {n k : Nat} (hf : Dg f n) (hg : Dg g n) (hk : k < n) (he : ∀ j, k < j → j < n → f j = g j) (hl : f k < g k) : vd f n < vd g n := by
  obtain ⟨d, rfl⟩ := Nat.exists_eq_add_of_le (show k + 1 ≤ n by omega)
  have e : vd (sh f (k + 1)) d = vd (sh g (k + 1)) d := vd_congr (fun j hj => he _ (by omega) (by omega))
  have a := vd_lt (hf.mono (m := k) (by omega)); have b := vd_nonneg (hg.mono (m := k) (by omega))
  have hp : (f k + 1) * pd k ≤ g k * pd k := Int.mul_le_mul_of_nonneg_right (by omega) (Int.le_of_lt (pd_pos k))
  rw [Int.add_mul, Int.one_mul] at hp
  rw [vd_split f (k + 1) d, vd_split g (k + 1) d, e, vd_succ f k, vd_succ g k]
  omega
theorem vd_cat1 (D : Nat → Int) (k : Nat) (x : Int) : vd (cat D k (fun _ => x)) (k + 1) = vd D k + x * pd k := by
  rw [vd_succ, vd_congr (f := cat D k (fun _ => x)) (g := D) (fun j hj => cat_in hj), cat_out (Nat.le_refl _)]
theorem dg_cat1 {D : Nat → Int} {k : Nat} {x : Int} (h : Dg D k) (hx : 0 ≤ x ∧ x < 4294967296) : Dg (cat D k (fun _ => x)) (k + 1) := fun j hj => by
  by_cases h1 : j < k
  · rw [cat_in h1]; exact h j h1
  · rw [cat_out (by omega)]; exact hx
/-- One digit of a sum. -/
theorem dadd_limb {V x c p : Int} : V + ((x + c) % 4294967296) * p + ((x + c) / 4294967296) * (4294967296 * p) = V + x * p + c * p := by
  have e : x + c = 4294967296 * ((x + c) / 4294967296) + (x + c) % 4294967296 := by omega
  grind
theorem dcarry_step {D F G : Nat → Int} {k : Nat} {cc x y : Int} (HV : vd D k + cc * pd k = vd F k + vd G k) (hx : F k = x) (hy : G k = y) :
    vd (cat D k (fun _ => (cc + x + y) % 4294967296)) (k + 1) + ((cc + x + y) / 4294967296) * pd (k + 1) = vd F (k + 1) + vd G (k + 1) := by
  rw [vd_cat1, vd_succ, vd_succ, pd_succ, hx, hy]
  have := dadd_limb (V := vd D k) (x := x + y) (c := cc) (p := pd k)
  have e : x + y + cc = cc + x + y := by omega
  rw [e] at this
  rw [this]
  grind
theorem dborrow_step {D F G : Nat → Int} {k : Nat} {cc x y v c' : Int} (HV : vd D k - cc * pd k = vd F k - vd G k) (hx : F k = x) (hy : G k = y) (hv : v = x - (cc + y) + 4294967296 * c') :
    vd (cat D k (fun _ => v)) (k + 1) - c' * pd (k + 1) = vd F (k + 1) - vd G (k + 1) := by
  rw [vd_cat1, vd_succ, vd_succ, pd_succ, hx, hy, hv]
  grind

set_option maxHeartbeats 800000 in
theorem rcmp_c (ao bo : Option Addr) (n m ca cb : Nat) (f g : Nat → Int) (w : World) (hm : n ≤ 140737488355328) (hm' : m ≤ 140737488355328)
    (hr : Rd .u64 w ao n f) (hs : Rd .u64 w bo m g) (hf : Dg f n) (hg : Dg g m) (ff : Fm f n) (fg : Fm g m) :
    Calls Tryz.prog 94 #[.slice ao n ca, .slice bo m cb] w fun e w' => (∃ q, w' = w.drewN q) ∧ ∃ c, e = .returned (.int .i64 c) ∧ Ord c (vd f n) (vd g m) := by
  have FF := hid ff
  have FG := hid fg
  have HF := hid hf
  have HG := hid hg
  clear ff fg hf hg
  rcases Nat.lt_trichotomy n m with hlt | heq | hlt
  · have h1 : ((n : Int) != m) = true := by simp; omega
    have h2 : decide ((n : Int) < m) = true := by simp; omega
    have h3 : vd f n < vd g m := by
      apply Int.lt_of_not_ge; intro h
      have := vd_len HG.out HF.out FG.out h; omega
    have H3 := hid h3
    clear h3
    go_enter Tryz.func94, Tryz.ntmps94
    go_wp2
    go_ret
    exact ⟨⟨0, rfl⟩, -1, rfl, .inl ⟨rfl, H3.out⟩⟩
  · subst heq
    have h1 : ((n : Int) != n) = false := by simp
    go_enter Tryz.func94, Tryz.ntmps94
    go_wp2
    go_loopw [5] (fun t wr => ∃ i : Nat, i ≤ n ∧ t = .int .i64 ((i : Int) - 1) ∧ Hid (∀ j, i ≤ j → j < n → f j = g j) ∧ ∃ q, wr = w.drewN q) (fun t _ => ((intOf t) + 1).toNat)
    case atStart => exact ⟨n, by omega, rfl, fun j h1 h2 => by omega, 0, rfl⟩
    case round =>
      obtain ⟨i, hin, rfl, HE, q, rfl⟩ := hrel
      by_cases hlt : 0 < i
      · obtain ⟨b, o, rfl⟩ := hr.at (by omega)
        obtain ⟨b', o', rfl⟩ := hs.at (by omega)
        obtain ⟨x, hx⟩ : ∃ x, f (i - 1) = x := ⟨_, rfl⟩
        obtain ⟨y, hy⟩ : ∃ y, g (i - 1) = y := ⟨_, rfl⟩
        have hca : w.cell? ⟨b, o + (i - 1), none⟩ = some (.int .u64 x) := by rw [← hx]; exact hr.cell (by omega)
        have hcb : w.cell? ⟨b', o' + (i - 1), none⟩ = some (.int .u64 y) := by rw [← hy]; exact hs.cell (by omega)
        have HX := hid hx
        have HY := hid hy
        clear hx hy hr hs
        rcases Int.lt_trichotomy x y with hl | hxy | hl
        · have hd : decide (x < y) = true := by simp [hl]
          go_wp2
          go_quiet (fail)
          go_wp2
          go_ret
          refine ⟨⟨_, by (repeat rw [World.drewN_drewN]) <;> rfl⟩, -1, rfl, .inl ⟨rfl, dcmp_step HF.out HG.out (k := i - 1) (by omega) (fun j h1 h2 => HE.out j (by omega) h2) (by rw [HX.out, HY.out]; exact hl)⟩⟩
        · subst hxy
          have hd : decide (x < x) = false := by simp
          go_wp2
          go_quiet (fail)
          go_wp2
          go_quiet (fail)
          go_wp2
          go_roundw
          case rel =>
            refine ⟨i - 1, by omega, by go_num, fun j h1 h2 => ?_, _, by (repeat rw [World.drewN_drewN]) <;> rfl⟩
            by_cases hj : j = i - 1
            · rw [hj]; exact HX.out.trans HY.out.symm
            · exact HE.out j (by omega) h2
          case measure => simp [intOf]; omega
        · have hd : decide (x < y) = false := by simp; omega
          have hd2 : decide (y < x) = true := by simp [hl]
          go_wp2
          go_quiet (fail)
          go_wp2
          go_quiet (fail)
          go_wp2
          go_ret
          refine ⟨⟨_, by (repeat rw [World.drewN_drewN]) <;> rfl⟩, 1, rfl, .inr (.inr ⟨rfl, dcmp_step HG.out HF.out (k := i - 1) (by omega) (fun j h1 h2 => (HE.out j (by omega) h2).symm) (by rw [HX.out, HY.out]; omega)⟩)⟩
      · have hi : i = 0 := by omega
        subst hi
        go_wp2
        go_ret
        exact ⟨⟨_, rfl⟩, 0, rfl, .inr (.inl ⟨rfl, vd_congr (fun j hj => HE.out j (by omega) hj)⟩)⟩
  · have h1 : ((n : Int) != m) = true := by simp; omega
    have h2 : decide ((n : Int) < m) = false := by simp; omega
    have h3 : vd g m < vd f n := by
      apply Int.lt_of_not_ge; intro h
      have := vd_len HF.out HG.out FF.out h; omega
    have H3 := hid h3
    clear h3
    go_enter Tryz.func94, Tryz.ntmps94
    go_wp2
    go_ret
    exact ⟨⟨0, rfl⟩, 1, rfl, .inr (.inr ⟨rfl, H3.out⟩)⟩

set_option maxRecDepth 100000 in
set_option maxHeartbeats 2000000 in
/-- Add: the sum, on digits. -/
theorem raddO_c (ao bo : Option Addr) (n m ca cb : Nat) (f h : Nat → Int) (w : World) (hn : n ≤ 1048576) (hm : m ≤ 1048576) (hr : Rd .u64 w ao n f) (hs : Rd .u64 w bo m h) (hf : Dg f n) (hh : Dg h m) :
    Calls Tryz.prog 118 #[.slice ao n ca, .slice bo m cb] w fun e w' => ∃ ao' k cap' D, e = .returned (.slice ao' k cap') ∧ Below w.heap.size w w' ∧ Rd .u64 w' ao' k D ∧ k ≤ n + m + 1 ∧ Dg D k ∧ Fm D k ∧ (∀ a, ao' = some a → w.heap.size ≤ a.block) ∧ vd D k = vd f n + vd h m := by
  obtain ⟨i0, hi, hz0, hz1, hz2⟩ := info_parts Tryz.infoU64
  have RA0 := hid hr
  have RB0 := hid hs
  have DA0 := hid hf
  have DB0 := hid hh
  clear hr hs hf hh
  by_cases hsw : n < m
  · have RA := RB0
    have RB := RA0
    have DA := DB0
    have DB := DA0
    clear RA0 RB0 DA0 DB0
    go_enter Tryz.func118, Tryz.ntmps118
    go_wp2_with (at_make; refine wpList_make_own w rfl (.const (.int .i64 0)) (.tmp 18) 22 rfl w.heap.size 83 i0 (.int .u64 0) 1 Tryz.underlying22 hi hz0 hz1 .i64 .i64 ((m : Int) + 1) (m + 1) rfl rfl (by omega) (by rw [hz2]; omega) (by unfold maxLen; omega) (Nat.le_refl _) ?_; intro w1 hown1 hgr1)
    have hb1 : Below w.heap.size w w1 := (Below.refl _ _).grown hgr1 (Nat.le_refl _) (fun k h => by cases h)
    have HO1 := hid (show Own .u64 83 w1 w.heap.size (.slice (some ⟨w.heap.size, 0, none⟩) 0 (m + 1)) 0 (fun _ => 0) from hown1)
    clear hown1 hgr1
    go_loopw [5, 6, 22] (fun v c t wr => ∃ (k : Nat) (cc : Int) (D : Nat → Int), k ≤ m ∧ t = .int .i64 k ∧ c = .int .u64 cc ∧ 0 ≤ cc ∧ cc ≤ 1 ∧ Below w.heap.size w wr ∧ Hid (Own .u64 83 wr w.heap.size v k D) ∧ Hid (Dg D k) ∧ Hid (vd D k + cc * pd k = vd h k + vd (ext f n) k)) (fun _ _ t _ => m - (intOf t).toNat)
    case atStart => exact ⟨0, 0, fun _ => 0, by omega, rfl, rfl, by omega, by omega, hb1, HO1.out, fun j hj => by omega, by simp [Hid, vd, pd]⟩
    case round =>
      clear hb1 HO1
      obtain ⟨k, cc, D, hk, rfl, rfl, c0, c1, hbel, HO, HDg, HV⟩ := hrel
      by_cases hlt : k < m
      · have hrA := RA.out
        obtain ⟨b, o, rfl⟩ := hrA.at (by omega)
        obtain ⟨x, hx⟩ : ∃ x, h k = x := ⟨_, rfl⟩
        have hcell : wr.cell? ⟨b, o + k, none⟩ = some (.int .u64 x) := by rw [← hx]; exact (hrA.below hbel (Nat.le_refl _)).cell hlt
        obtain ⟨x0, x1⟩ := DA.out k hlt
        rw [hx] at x0 x1
        have HX := hid hx
        clear hx hrA
        by_cases hlt2 : k < n
        · have hrB := RB.out
          obtain ⟨b', o', rfl⟩ := hrB.at (by omega)
          obtain ⟨y, hy⟩ : ∃ y, f k = y := ⟨_, rfl⟩
          have hcelb : wr.cell? ⟨b', o' + k, none⟩ = some (.int .u64 y) := by rw [← hy]; exact (hrB.below hbel (Nat.le_refl _)).cell hlt2
          obtain ⟨y0, y1⟩ := DB.out k hlt2
          rw [hy] at y0 y1
          have HY := hid (show ext f n k = y from (ext_in _ _ _ hlt2).trans hy)
          clear hy hrB
          go_wp2_with (at_builtin; refine wpList_append_own_list .u64 _ rfl (.tmp 40) (.tmp 43) 22 rfl w.heap.size 83 8 Tryz.underlying22 Tryz.infoU64 _ k D rfl (Own.alloc HO.out _) wr.heap.size 0 1 1 (fun _ => (cc + x + y) % 4294967296) rfl (rd_new1 wr _ _) ?c1 ?c2 ?c3 ?_)
          case c1 => unfold maxLen; omega
          case c2 => omega
          case c3 => have := hbel.size; simp; omega
          intro v' w' hown hgr
          have hbel2 : Below w.heap.size w w' := (hbel.alloc hbel.size _).grown hgr (by have := hbel.size; simp; omega) (fun k h => (Own.ge HO.out k h))
          have HO2 := hid hown
          clear hown hgr HO
          go_wp2
          go_roundw
          case rel => exact ⟨k + 1, _, _, by omega, by go_num, rfl, by omega, by omega, hbel2, HO2.out, dg_cat1 HDg.out (by omega), dcarry_step HV.out HX.out HY.out⟩
          case measure => simp [intOf]; omega
        · have HY := hid (show ext f n k = 0 from ext_out _ _ _ (by omega))
          go_wp2_with (at_builtin; refine wpList_append_own_list .u64 _ rfl (.tmp 40) (.tmp 43) 22 rfl w.heap.size 83 8 Tryz.underlying22 Tryz.infoU64 _ k D rfl (Own.alloc HO.out _) wr.heap.size 0 1 1 (fun _ => (cc + x) % 4294967296) rfl (rd_new1 wr _ _) ?c1 ?c2 ?c3 ?_)
          case c1 => unfold maxLen; omega
          case c2 => omega
          case c3 => have := hbel.size; simp; omega
          intro v' w' hown hgr
          have hbel2 : Below w.heap.size w w' := (hbel.alloc hbel.size _).grown hgr (by have := hbel.size; simp; omega) (fun k h => (Own.ge HO.out k h))
          have HO2 := hid hown
          clear hown hgr HO
          go_wp2
          go_roundw
          case rel => exact ⟨k + 1, _, _, by omega, by go_num, rfl, by omega, by omega, hbel2, HO2.out, dg_cat1 HDg.out (by omega), (by have := dcarry_step HV.out HX.out HY.out; simpa [Hid] using this)⟩
          case measure => simp [intOf]; omega
      · have hkn : k = m := by omega
        subst hkn
        go_wp2_with (at_builtin; refine wpList_append_own_list .u64 _ rfl (.tmp 48) (.tmp 50) 22 rfl w.heap.size 83 8 Tryz.underlying22 Tryz.infoU64 _ k D rfl (Own.alloc HO.out _) wr.heap.size 0 1 1 (fun _ => cc) rfl (rd_new1 wr _ _) ?c1 ?c2 ?c3 ?_)
        case c1 => unfold maxLen; omega
        case c2 => omega
        case c3 => have := hbel.size; simp; omega
        intro v' w' hown hgr
        have hbel2 : Below w.heap.size w w' := (hbel.alloc hbel.size _).grown hgr (by have := hbel.size; simp; omega) (fun k h => (Own.ge HO.out k h))
        obtain ⟨ao', cap', hv, hcc, hnn, hml, hrd, hlt3⟩ := Own.shape hown
        unfold maxLen at hml
        subst hv
        have HLT := hid hlt3
        clear hown hgr HO hlt3
        go_wp2_with fail
        refine (low_c ao' (k + 1) cap' (cat D k (fun _ => cc)) w' hcc hml hrd hnn).mono ?_
        rintro e w2 ⟨rfl, m', hm1, hz, hfm, rfl⟩
        have HZ := hid hz
        have HFM := hid hfm
        clear hz hfm
        go_wp2
        go_ret
        refine ⟨ao', m', cap', _, rfl, hbel2, hrd.take hm1, by omega, (dg_cat1 HDg.out (by omega)).mono hm1, HFM.out, fun a ha => (HLT.out a ha).1, ?_⟩
        rw [trim_vald hm1 HZ.out, vd_cat1, HV.out, vd_ext_list _ _ _ (by omega)]
        omega
  · have RA := RA0
    have RB := RB0
    have DA := DA0
    have DB := DB0
    clear RA0 RB0 DA0 DB0
    go_enter Tryz.func118, Tryz.ntmps118
    go_wp2_with (at_make; refine wpList_make_own w rfl (.const (.int .i64 0)) (.tmp 18) 22 rfl w.heap.size 83 i0 (.int .u64 0) 1 Tryz.underlying22 hi hz0 hz1 .i64 .i64 ((n : Int) + 1) (n + 1) rfl rfl (by omega) (by rw [hz2]; omega) (by unfold maxLen; omega) (Nat.le_refl _) ?_; intro w1 hown1 hgr1)
    have hb1 : Below w.heap.size w w1 := (Below.refl _ _).grown hgr1 (Nat.le_refl _) (fun k h => by cases h)
    have HO1 := hid (show Own .u64 83 w1 w.heap.size (.slice (some ⟨w.heap.size, 0, none⟩) 0 (n + 1)) 0 (fun _ => 0) from hown1)
    clear hown1 hgr1
    go_loopw [5, 6, 22] (fun v c t wr => ∃ (k : Nat) (cc : Int) (D : Nat → Int), k ≤ n ∧ t = .int .i64 k ∧ c = .int .u64 cc ∧ 0 ≤ cc ∧ cc ≤ 1 ∧ Below w.heap.size w wr ∧ Hid (Own .u64 83 wr w.heap.size v k D) ∧ Hid (Dg D k) ∧ Hid (vd D k + cc * pd k = vd f k + vd (ext h m) k)) (fun _ _ t _ => n - (intOf t).toNat)
    case atStart => exact ⟨0, 0, fun _ => 0, by omega, rfl, rfl, by omega, by omega, hb1, HO1.out, fun j hj => by omega, by simp [Hid, vd, pd]⟩
    case round =>
      clear hb1 HO1
      obtain ⟨k, cc, D, hk, rfl, rfl, c0, c1, hbel, HO, HDg, HV⟩ := hrel
      by_cases hlt : k < n
      · have hrA := RA.out
        obtain ⟨b, o, rfl⟩ := hrA.at (by omega)
        obtain ⟨x, hx⟩ : ∃ x, f k = x := ⟨_, rfl⟩
        have hcell : wr.cell? ⟨b, o + k, none⟩ = some (.int .u64 x) := by rw [← hx]; exact (hrA.below hbel (Nat.le_refl _)).cell hlt
        obtain ⟨x0, x1⟩ := DA.out k hlt
        rw [hx] at x0 x1
        have HX := hid hx
        clear hx hrA
        by_cases hlt2 : k < m
        · have hrB := RB.out
          obtain ⟨b', o', rfl⟩ := hrB.at (by omega)
          obtain ⟨y, hy⟩ : ∃ y, h k = y := ⟨_, rfl⟩
          have hcelb : wr.cell? ⟨b', o' + k, none⟩ = some (.int .u64 y) := by rw [← hy]; exact (hrB.below hbel (Nat.le_refl _)).cell hlt2
          obtain ⟨y0, y1⟩ := DB.out k hlt2
          rw [hy] at y0 y1
          have HY := hid (show ext h m k = y from (ext_in _ _ _ hlt2).trans hy)
          clear hy hrB
          go_wp2_with (at_builtin; refine wpList_append_own_list .u64 _ rfl (.tmp 40) (.tmp 43) 22 rfl w.heap.size 83 8 Tryz.underlying22 Tryz.infoU64 _ k D rfl (Own.alloc HO.out _) wr.heap.size 0 1 1 (fun _ => (cc + x + y) % 4294967296) rfl (rd_new1 wr _ _) ?c1 ?c2 ?c3 ?_)
          case c1 => unfold maxLen; omega
          case c2 => omega
          case c3 => have := hbel.size; simp; omega
          intro v' w' hown hgr
          have hbel2 : Below w.heap.size w w' := (hbel.alloc hbel.size _).grown hgr (by have := hbel.size; simp; omega) (fun k h => (Own.ge HO.out k h))
          have HO2 := hid hown
          clear hown hgr HO
          go_wp2
          go_roundw
          case rel => exact ⟨k + 1, _, _, by omega, by go_num, rfl, by omega, by omega, hbel2, HO2.out, dg_cat1 HDg.out (by omega), dcarry_step HV.out HX.out HY.out⟩
          case measure => simp [intOf]; omega
        · have HY := hid (show ext h m k = 0 from ext_out _ _ _ (by omega))
          go_wp2_with (at_builtin; refine wpList_append_own_list .u64 _ rfl (.tmp 40) (.tmp 43) 22 rfl w.heap.size 83 8 Tryz.underlying22 Tryz.infoU64 _ k D rfl (Own.alloc HO.out _) wr.heap.size 0 1 1 (fun _ => (cc + x) % 4294967296) rfl (rd_new1 wr _ _) ?c1 ?c2 ?c3 ?_)
          case c1 => unfold maxLen; omega
          case c2 => omega
          case c3 => have := hbel.size; simp; omega
          intro v' w' hown hgr
          have hbel2 : Below w.heap.size w w' := (hbel.alloc hbel.size _).grown hgr (by have := hbel.size; simp; omega) (fun k h => (Own.ge HO.out k h))
          have HO2 := hid hown
          clear hown hgr HO
          go_wp2
          go_roundw
          case rel => exact ⟨k + 1, _, _, by omega, by go_num, rfl, by omega, by omega, hbel2, HO2.out, dg_cat1 HDg.out (by omega), (by have := dcarry_step HV.out HX.out HY.out; simpa [Hid] using this)⟩
          case measure => simp [intOf]; omega
      · have hkn : k = n := by omega
        subst hkn
        go_wp2_with (at_builtin; refine wpList_append_own_list .u64 _ rfl (.tmp 48) (.tmp 50) 22 rfl w.heap.size 83 8 Tryz.underlying22 Tryz.infoU64 _ k D rfl (Own.alloc HO.out _) wr.heap.size 0 1 1 (fun _ => cc) rfl (rd_new1 wr _ _) ?c1 ?c2 ?c3 ?_)
        case c1 => unfold maxLen; omega
        case c2 => omega
        case c3 => have := hbel.size; simp; omega
        intro v' w' hown hgr
        have hbel2 : Below w.heap.size w w' := (hbel.alloc hbel.size _).grown hgr (by have := hbel.size; simp; omega) (fun k h => (Own.ge HO.out k h))
        obtain ⟨ao', cap', hv, hcc, hnn, hml, hrd, hlt3⟩ := Own.shape hown
        unfold maxLen at hml
        subst hv
        have HLT := hid hlt3
        clear hown hgr HO hlt3
        go_wp2_with fail
        refine (low_c ao' (k + 1) cap' (cat D k (fun _ => cc)) w' hcc hml hrd hnn).mono ?_
        rintro e w2 ⟨rfl, m', hm1, hz, hfm, rfl⟩
        have HZ := hid hz
        have HFM := hid hfm
        clear hz hfm
        go_wp2
        go_ret
        refine ⟨ao', m', cap', _, rfl, hbel2, hrd.take hm1, by omega, (dg_cat1 HDg.out (by omega)).mono hm1, HFM.out, fun a ha => (HLT.out a ha).1, ?_⟩
        rw [trim_vald hm1 HZ.out, vd_cat1, HV.out, vd_ext_list _ _ _ (by omega)]

/-- The same, without the place. -/
theorem radd_c (ao bo : Option Addr) (n m ca cb : Nat) (f h : Nat → Int) (w : World) (hn : n ≤ 1048576) (hm : m ≤ 1048576) (hr : Rd .u64 w ao n f) (hs : Rd .u64 w bo m h) (hf : Dg f n) (hh : Dg h m) :
    Calls Tryz.prog 118 #[.slice ao n ca, .slice bo m cb] w fun e w' => ∃ ao' k cap' D, e = .returned (.slice ao' k cap') ∧ Below w.heap.size w w' ∧ Rd .u64 w' ao' k D ∧ k ≤ n + m + 1 ∧ Dg D k ∧ Fm D k ∧ vd D k = vd f n + vd h m :=
  (raddO_c ao bo n m ca cb f h w hn hm hr hs hf hh).mono (fun _ _ ⟨a, k, c, D, h1, h2, h3, h4, h5, h6, _, h7⟩ => ⟨a, k, c, D, h1, h2, h3, h4, h5, h6, h7⟩)

end Go.Proofs.YtndiiknbkjlbiaaGreatDoor

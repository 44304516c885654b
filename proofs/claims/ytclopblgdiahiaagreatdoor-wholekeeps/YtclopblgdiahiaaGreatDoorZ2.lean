/-
  The walk of package nat's addCutProduct: three products in place of four. Package nat's products for all lengths. Walks of package nat's texts: levels, bases. Walks of package nat's texts: putDigits. What the rows of this seat share: how an argument that is a list of limbs is opened, the listed tables, a world in which they lie. How an argument that is a whole number is opened. What a call's own stores turned; lists of a call's own. No Go text is named here. Lists in memory that are told apart by their blocks; append, with the place of what it answers. No Go text is named here. The two rounds of stores of a statement that spoils lists and looks at the others: what stays. Lists of limbs. The two rounds of stores of a statement that spoils lists and looks at the others, where the lists lie in a row of structs. Walks of package nat's long division, its parts: addWord and addTo with what goes over, mulSubFrom, guess.
-/
import Derived.Test.YtclopblgdiahiaaGreatDoorZ1
import Derived.Deep.CutRange
import Derived.Deep.RegionHeld3
import Derived.Test.YtclopblgdiahiaaGreatDoorCards
import Derived.Test.YtclopblgdiahiaaGreatDoorTie
import Derived.ProofKit
import Derived.OpenShut
import Derived.Deep.DeepHandedRow
import Derived.Lib.LaidTab
import Derived.ChangeSame
import Derived.Test.YtclopblgdiahiaaGreatDoorZ0
namespace Go.Proofs.YtclopblgdiahiaaGreatDoor
open Go.RowKit

set_option maxRecDepth 100000 in
set_option maxHeartbeats 1000000 in
/-- product: a * b in a list of just n + m limbs. -/
theorem product_c (ao bo : Option Addr) (n m ca cb : Nat) (fa fb : Nat → Int) (w : World) (hap : AddProdC n m ca cb) (hn : n ≤ 4398046511104) (hm : m ≤ 4398046511104) (hra : Rd .u64 w ao n fa) (hrb : Rd .u64 w bo m fb) (ha : Lm fa n) (hb : Lm fb m) :
    Calls Tryz.prog 146 #[.slice ao n ca, .slice bo m cb] w fun e w' => e = .returned (.slice (some ⟨w.heap.size, 0, none⟩) (n + m) (n + m)) ∧ Below w.heap.size w w' ∧
      ∃ f', Blk .u64 28 w' w.heap.size (n + m) f' ∧ Lm f' (n + m) ∧ vf f' (n + m) = vf fa n * vf fb m := by
  have HP := hid hap; have HA := hid ha; have HB := hid hb; have RA := hid hra; have RB := hid hrb
  clear hap ha hb hra hrb
  go_enter Tryz.func146, Tryz.ntmps146
  go_wp2_with (at_make; refine wpList_make_blk .u64 w rfl (.tmp 10) (.tmp 10) 22 rfl 28 8 Tryz.underlying22 Tryz.infoU64 .i64 .i64 ((n : Int) + m) ((n : Int) + m) (n + m) rfl rfl (by omega) (by omega) (by omega) (by unfold maxLen; omega) ?_; intro w1 hb1 hbel1)
  have hz : vf (sh (fun _ => (0 : Int)) 0) (n + m) = 0 := vf_zero (fun _ _ => rfl)
  refine (HP.out w.heap.size 0 (n + m) (n + m) (fun _ => 0) ao bo (n + m) fa fb w1 hb1 (lm_zero _) (by omega) (Nat.le_refl _) (by omega) (RA.out.below hbel1 (Nat.le_refl _)) (RB.out.below hbel1 (Nat.le_refl _)) HA.out HB.out (fun h0 => (RA.out.und h0).off (Nat.le_refl _)) (fun h0 => (RB.out.und h0).off (Nat.le_refl _)) (Nat.le_refl _) (by omega) (by rw [hz]; have := prod_lt HA.out HB.out; omega)).mono ?_
  rintro e w2 ⟨rfl, hon, f2, hb2, hl2, he2, hv2⟩
  rw [hz] at hv2
  have HV2 := hid hv2
  clear hv2 hz
  go_wp2
  go_ret
  exact ⟨rfl, below_only hbel1 hon (Nat.le_refl _) hbel1.size, f2, hb2, hl2, by have := HV2.out; rw [sh_zero] at this; omega⟩

/-- trim of a list in a block, told with its place. -/
theorem trim_at (g N n : Nat) (f : Nat → Int) (w : World) (hb : Blk .u64 28 w g N f) (hn : n ≤ N) (hN : N ≤ 140737488355328) (hf : Lm f N) :
    Calls Tryz.prog 137 #[.slice (some ⟨g, 0, none⟩) n N] w fun e w' => w' = w ∧ ∃ x k c, e = .returned (.slice x k c) ∧ (∀ h, h ≠ g → Off x h) ∧ k ≤ n ∧ Rd .u64 w x k f ∧ Lm f k ∧ Fm f k ∧ vf f k = vf f n := by
  refine (trim_c _ n N f w hn hN (hb.rd0 hn)).mono ?_
  rintro e w2 ⟨rfl, m, hmn, hz, he⟩
  refine ⟨rfl, ?_⟩
  have hv : vf f m = vf f n := trim_val hmn hz
  rcases he with ⟨rfl, rfl⟩ | ⟨hm0, hne, rfl⟩
  · exact ⟨none, 0, 0, rfl, fun _ _ => off_none _, hmn, Rd.zero, fun j hj => by omega, .inl rfl, hv⟩
  · exact ⟨_, m, N, rfl, fun _ h => off_some (Ne.symm h), hmn, hb.rd0 (by omega), hf.mono (by omega), .inr hne, hv⟩

theorem Res.kept {C w w' ao n cap f} (h : Res C w w' ao n cap f) {k x m q} (hr : Rd k w x m q) : Rd k w' x m q := hr.below h.bel (Nat.le_refl _)

theorem mid_len {f : Nat → Int} {k D : Nat} (hl : Lm f k) (hf : Fm f k) (h : vf f k < pw D) : k ≤ D := by
  apply Nat.le_of_not_lt; intro hlt
  have b1 := vf_form_ge hl hf (by omega)
  have b2 := pw_mono (show D ≤ k - 1 by omega)
  omega

/-- The sum, put together. -/
theorem cut_sum (A0 A1 B0 B1 p V0 : Int) : V0 + A0 * B0 + A1 * B1 * (p * p) + ((A0 + A1) * (B0 + B1) - A0 * B0 - A1 * B1) * p = V0 + (A0 + A1 * p) * (B0 + B1 * p) := by grind

set_option maxRecDepth 100000 in
set_option maxHeartbeats 8000000 in
/-- addCutProduct. -/
theorem cut_c (g o cap N : Nat) (f : Nat → Int) (b ob b' ob' n m ca cb D c : Nat) (fa fb : Nat → Int) (w : World) (hb : Blk .u64 28 w g N f) (hf : Lm f N) (ho : o + D ≤ N) (hD : n + m ≤ D) (hN : N ≤ 140737488355328)
    (hra : Rd .u64 w (some ⟨b, ob, none⟩) n fa) (hrb : Rd .u64 w (some ⟨b', ob', none⟩) m fb) (ha : Lm fa n) (hbb : Lm fb m) (hcap : D ≤ cap) (hcm : cap ≤ 140737488355328) (hca : n ≤ ca) (hcam : ca ≤ 9223372036854775807) (hcb : m ≤ cb) (hcbm : cb ≤ 9223372036854775807)
    (hc : c = (n + 1) / 2) (hcm1 : c < m) (hmn : m ≤ n) (hm40 : 40 ≤ m) (hn44 : n ≤ 2199023255552)
    (hih : ∀ k l x y, k + l < n + m → k ≤ x → l ≤ y → x ≤ 9223372036854775807 → y ≤ 9223372036854775807 → AddProdC k l x y) (hroom : vf (sh f o) D + vf fa n * vf fb m < pw D) :
    Calls Tryz.prog 190 #[.slice (some ⟨g, o, none⟩) D cap, .slice (some ⟨b, ob, none⟩) n ca, .slice (some ⟨b', ob', none⟩) m cb] w fun e w' => e = .returned (.tuple #[]) ∧ Only g w w' ∧
      ∃ f', Blk .u64 28 w' g N f' ∧ Lm f' N ∧ (∀ j, j < o ∨ o + D ≤ j → f' j = f j) ∧ vf (sh f' o) D = vf (sh f o) D + vf fa n * vf fb m := by
  have HRm := hid hroom; have HB := hid hb; have HF := hid hf; have HRA := hid hra; have HRB := hid hrb; have HA := hid ha; have HBB := hid hbb; have HIH := hid hih
  have CH := hid (half_c n c n w (by omega) rfl hc)
  have hc1 : c < n := by omega
  have hc2 : 2 * c ≤ n + 1 := by omega
  have hc3 : n ≤ 2 * c := by omega
  clear hroom hb hf hra hrb ha hbb hih hc
  have e1 : (c : Int) ≤ (n : Int) := by omega
  have e2 : (c : Int) ≤ (m : Int) := by omega
  have e3 : (c : Int) ≤ (ca : Int) := by omega
  have e4 : (c : Int) ≤ (cb : Int) := by omega
  have e5 : ¬ (c = ca) := by omega
  have e6 : ¬ (ca = c) := by omega
  have e7 : ¬ (c = cb) := by omega
  have e8 : ¬ (cb = c) := by omega
  have C1 := hid (fun W h1 h2 => product_c (some ⟨b, ob, none⟩) (some ⟨b', ob', none⟩) c c ca cb fa fb W (HIH.out c c ca cb (by omega) (by omega) (by omega) hcam hcbm) (by omega) (by omega) h1 h2 (HA.out.mono (by omega)) (HBB.out.mono (by omega)))
  go_enter Tryz.func190, Tryz.ntmps190
  go_wp2_with fail
  refine CH.out.mono ?_
  rintro e w' ⟨rfl, rfl⟩
  go_upto_region 1 with fail
  go_cut [7] from 13 to 19 (fun s wx => s = .slice (some ⟨w'.heap.size, 0, none⟩) (c + c) (c + c) ∧ Below w'.heap.size w' wx ∧ ∃ fl, Blk .u64 28 wx w'.heap.size (c + c) fl ∧ Lm fl (c + c) ∧ vf fl (c + c) = vf fa c * vf fb c)
  case first =>
    go_region_with (go_at_call 146; refine (C1.out _ (by exact HRA.out.take (by omega)) (by exact HRB.out.take (by omega))).mono ?_; rintro e wl ⟨rfl, hbl, fl, hbl1, hll, hvl⟩; have HVl := hid hvl; clear hvl)
    all_goals
      go_wp2_with fail
      go_meet
      exact ⟨rfl, ⟨hbl.os, hbl.tape, hbl.output, hbl.size, hbl.block⟩, fl, hbl1, hll, HVl.out⟩
  case rest =>
  rename World => w1
  obtain ⟨rfl, hbel1, fl, hbl1, hll, hvl⟩ := hcut
  have HBl1 := hid hbl1; have HLl := hid hll; have HVl := hid hvl; have BE1 := hid hbel1
  have HRA1 := hid (HRA.out.below hbel1 (Nat.le_refl _)); have HRB1 := hid (HRB.out.below hbel1 (Nat.le_refl _))
  clear hbl1 hll hvl C1 CH hbel1
  have C2 := hid (fun W h1 h2 => product_c (some ⟨b, ob + c, none⟩) (some ⟨b', ob' + c, none⟩) (n - c) (m - c) (ca - c) (cb - c) (sh fa c) (sh fb c) W (HIH.out (n - c) (m - c) (ca - c) (cb - c) (by omega) (by omega) (by omega) (by omega) (by omega)) (by omega) (by omega) h1 h2 (HA.out.sh (by omega)) (HBB.out.sh (by omega)))
  go_upto_region 2 with fail
  go_cut [8] from 20 to 26 (fun s wx => s = .slice (some ⟨w1.heap.size, 0, none⟩) (n - c + (m - c)) (n - c + (m - c)) ∧ Below w1.heap.size w1 wx ∧ ∃ fh, Blk .u64 28 wx w1.heap.size (n - c + (m - c)) fh ∧ Lm fh (n - c + (m - c)) ∧ vf fh (n - c + (m - c)) = vf (sh fa c) (n - c) * vf (sh fb c) (m - c))
  case first =>
    go_region_with (go_at_call 146; refine (C2.out _ (by exact HRA1.out.drop (by omega)) (by exact HRB1.out.drop (by omega))).mono ?_; rintro e wh ⟨rfl, hbh, fh, hbh1, hlh, hvh⟩; have HVh := hid hvh; clear hvh)
    all_goals
      go_wp2_with fail
      go_meet
      exact ⟨rfl, ⟨hbh.os, hbh.tape, hbh.output, hbh.size, hbh.block⟩, fh, hbh1, hlh, HVh.out⟩
  case rest =>
  rename World => w2
  obtain ⟨rfl, hbel2, fh, hbh1, hlh, hvh⟩ := hcut
  have HBh2 := hid hbh1; have HLh := hid hlh; have HVh := hid hvh; have BE2 := hid hbel2
  have HRA2 := hid (HRA1.out.below hbel2 (Nat.le_refl _)); have HRB2 := hid (HRB1.out.below hbel2 (Nat.le_refl _))
  have HBl2 := hid (HBl1.out.below hbel2 (HBl1.out.lt))
  have BE12 := hid (BE1.out.trans (hbel2.mono BE1.out.size))
  have zz1 := BE1.out.size
  have zl1 := HBl1.out.lt
  have zh2 := HBh2.out.lt
  clear hbh1 hlh hvh C2 hbel2 HRA1 HRB1 HBl1
  have C3 := hid (fun W h1 h2 => add_c (some ⟨b, ob, none⟩) (some ⟨b, ob + c, none⟩) c (n - c) ca (ca - c) fa (sh fa c) W (by omega) (by omega) h1 h2 (HA.out.mono (by omega)) (HA.out.sh (by omega)))
  have C4 := hid (fun W h1 h2 => add_c (some ⟨b', ob', none⟩) (some ⟨b', ob' + c, none⟩) c (m - c) cb (cb - c) fb (sh fb c) W (by omega) (by omega) h1 h2 (HBB.out.mono (by omega)) (HBB.out.sh (by omega)))
  have hbb' : b = b' ∨ b ≠ b' := by omega
  go_upto_region 3 with fail
  go_cut [9] from 27 to 41 (fun s wx => ∃ G K fm, s = .slice (some ⟨G, 0, none⟩) K K ∧ w2.heap.size ≤ G ∧ Below w2.heap.size w2 wx ∧ K ≤ 4398046511104 ∧ Blk .u64 28 wx G K fm ∧ Lm fm K ∧ vf fm K = (vf fa c + vf (sh fa c) (n - c)) * (vf fb c + vf (sh fb c) (m - c)))
  case first =>
    go_region_with (first | (go_at_call_of 113 ca; refine (C3.out _ (by exact HRA2.out.take (by omega)) (by exact HRA2.out.drop (by omega))).mono ?_; rintro e wa ⟨xa, ka, da, va, rfl, hresa, hvva⟩; have HResA := hid hresa; have HVa := hid hvva; clear hresa hvva) | (go_at_call_of 113 cb; refine (C4.out _ ((HResA.out.kept (by exact HRB2.out)).take (by omega)) ((HResA.out.kept (by exact HRB2.out)).drop (by omega))).mono ?_; rintro e wb ⟨xb, kb, db, vb, rfl, hresb, hvvb⟩; have HResB := hid hresb; have HVb := hid hvvb; clear hresb hvvb) | (go_at_call 146; refine (product_c xa xb ka kb da db va vb _ (HIH.out ka kb da db (by have := HResA.out.le; have := HResB.out.le; omega) HResA.out.ncap.1 HResB.out.ncap.1 (by have := HResA.out.ncap; omega) (by have := HResB.out.ncap; omega)) (by have := HResA.out.le; omega) (by have := HResB.out.le; omega) (HResB.out.kept (by exact HResA.out.rd)) (by exact HResB.out.rd) HResA.out.lm HResB.out.lm).mono ?_; rintro e wm ⟨rfl, hbm, fm, hbm1, hlm, hvm⟩; have HVm := hid hvm; clear hvm))
    all_goals
      go_wp2_with fail
      go_meet
      have A := HResA.out.bel
      have BA : Below w2.heap.size w2 wa := ⟨A.os, A.tape, A.output, A.size, A.block⟩
      have BB := HResB.out.bel
      have y1 := BA.size
      have y2 := BB.size
      refine ⟨wb.heap.size, ka + kb, fm, rfl, by omega, BA.trans ((BB.mono y1).trans (hbm.mono (by omega))), by have := HResA.out.le; have := HResB.out.le; omega, hbm1, hlm, ?_⟩
      rw [HVm.out, HVa.out, HVb.out]
  case rest =>
  rename World => w3
  obtain ⟨G, K, fm, rfl, hG, hbel3, hK, hbm3, hlm, hvm⟩ := hcut
  have zz2 := BE2.out.size
  have zG := hbm3.lt
  obtain ⟨A0, hA0⟩ : ∃ A0, vf fa c = A0 := ⟨_, rfl⟩
  obtain ⟨A1, hA1⟩ : ∃ A1, vf (sh fa c) (n - c) = A1 := ⟨_, rfl⟩
  obtain ⟨B0, hB0⟩ : ∃ B0, vf fb c = B0 := ⟨_, rfl⟩
  obtain ⟨B1, hB1⟩ : ∃ B1, vf (sh fb c) (m - c) = B1 := ⟨_, rfl⟩
  have pA0 : 0 ≤ A0 := by rw [← hA0]; exact vf_nonneg (HA.out.mono (by omega))
  have pA1 : 0 ≤ A1 := by rw [← hA1]; exact vf_nonneg (HA.out.sh (by omega))
  have pB0 : 0 ≤ B0 := by rw [← hB0]; exact vf_nonneg (HBB.out.mono (by omega))
  have pB1 : 0 ≤ B1 := by rw [← hB1]; exact vf_nonneg (HBB.out.sh (by omega))
  have hAn : vf fa n = A0 + A1 * pw c := by rw [← hA0, ← hA1, ← vf_split, show c + (n - c) = n by omega]
  have hBn : vf fb m = B0 + B1 * pw c := by rw [← hB0, ← hB1, ← vf_split, show c + (m - c) = m by omega]
  have hvl := HVl.out
  have hvh := HVh.out
  rw [hA0, hB0] at hvl
  rw [hA1, hB1] at hvh
  rw [hA0, hA1, hB0, hB1] at hvm
  have p00 : 0 ≤ A0 * B0 := Int.mul_nonneg pA0 pB0
  have p11 : 0 ≤ A1 * B1 := Int.mul_nonneg pA1 pB1
  have p01 : 0 ≤ A0 * B1 := Int.mul_nonneg pA0 pB1
  have p10 : 0 ≤ A1 * B0 := Int.mul_nonneg pA1 pB0
  have hmid : (A0 + A1) * (B0 + B1) = A0 * B0 + A1 * B1 + (A0 * B1 + A1 * B0) := by grind
  rw [hmid] at hvm
  have hroom := HRm.out
  rw [hAn, hBn] at hroom
  have hall : vf (sh f o) D + (A0 + A1 * pw c) * (B0 + B1 * pw c) = vf (sh f o) D + A0 * B0 + A1 * B1 * pw (2 * c) + (A0 * B1 + A1 * B0) * pw c := by
    rw [show 2 * c = c + c by omega, pw_add]; grind
  rw [hall] at hroom
  generalize hL00 : A0 * B0 = L00 at *
  generalize hL11 : A1 * B1 = L11 at *
  generalize hLm : A0 * B1 + A1 * B0 = Lm' at *
  have pm : 0 ≤ Lm' := by omega
  clear hmid hA0 hA1 hB0 hB1 pA0 pA1 pB0 pB1 hL00 hL11 hLm p01 p10 C3 C4 HRA2 HRB2 HRA HRB HVl HVh HRm
  have ROOM := hid hroom; have HVl := hid hvl; have HVh := hid hvh; have HVm := hid hvm; have HAll := hid hall; have HAn := hid hAn; have HBn := hid hBn; have HLm3 := hid hlm; have HBm3 := hid hbm3
  have HBl3 := hid (HBl2.out.below hbel3 HBl2.out.lt)
  have HBh3 := hid (HBh2.out.below hbel3 HBh2.out.lt)
  have BE3 := hid (BE12.out.trans (hbel3.mono (by omega)))
  have HB3 := hid (HB.out.below BE3.out HB.out.lt)
  have gG := HB.out.lt
  clear hroom hvl hvh hvm hall hAn hBn hlm hbm3 hbel3 HBl2 HBh2 HB
  generalize hgl : w'.heap.size = gl at *
  generalize hgh : w1.heap.size = gh at *
  go_wp2_with fail
  refine (trim_at gl (c + c) (c + c) fl w3 HBl3.out (Nat.le_refl _) (by omega) HLl.out).mono ?_
  rintro e wt ⟨rfl, x1, k1, d1, rfl, hoff1, hk1, hr1, hl1, hf1, hv1⟩
  have HV1 := hid hv1; have HL1 := hid hl1; have HF1 := hid hf1; have HR1 := hid hr1; have HO1 := hid hoff1
  have hkK : k1 ≤ K := vf_len hl1 HLm3.out hf1 (by rw [hv1, HVl.out, HVm.out]; omega)
  clear hv1 hl1 hf1 hr1 hoff1
  go_wp2_with fail
  refine (subFrom_c G 0 K K K fm x1 k1 d1 fl _ HBm3.out HLm3.out (by omega) (by omega) HR1.out HL1.out (fun _ => HO1.out G (by omega)) hkK (Nat.le_refl _) (by omega) (by rw [sh_zero, HV1.out, HVl.out, HVm.out]; omega)).mono ?_
  rintro e w4 ⟨rfl, hon4, fm1, hb4, hl4, _, hv4⟩
  rw [sh_zero, sh_zero, HV1.out, HVl.out, HVm.out] at hv4
  have HBm4 := hid hb4; have HLm4 := hid hl4; have HVm4 := hid hv4; have ON4 := hid hon4
  have HBl4 := hid (HBl3.out.only hon4 (by omega)); have HBh4 := hid (HBh3.out.only hon4 (by omega)); have HB4 := hid (HB3.out.only hon4 (by omega))
  clear hb4 hl4 hv4 hon4 HR1 HL1 HF1 HO1 HV1 HBl3 HBh3 HB3 HBm3 HLm3 HVm hkK hk1
  go_wp2_with fail
  refine (trim_at gh (n - c + (m - c)) (n - c + (m - c)) fh w4 HBh4.out (Nat.le_refl _) (by omega) HLh.out).mono ?_
  rintro e wt ⟨rfl, x2, k2, d2, rfl, hoff1, hk1, hr1, hl1, hf1, hv1⟩
  have HV1 := hid hv1; have HL1 := hid hl1; have HF1 := hid hf1; have HR1 := hid hr1; have HO1 := hid hoff1
  have hkK : k2 ≤ K := vf_len hl1 HLm4.out hf1 (by rw [hv1, HVh.out, HVm4.out]; omega)
  clear hv1 hl1 hf1 hr1 hoff1
  go_wp2_with fail
  refine (subFrom_c G 0 K K K fm1 x2 k2 d2 fh _ HBm4.out HLm4.out (by omega) (by omega) HR1.out HL1.out (fun _ => HO1.out G (by omega)) hkK (Nat.le_refl _) (by omega) (by rw [sh_zero, HV1.out, HVh.out, HVm4.out]; omega)).mono ?_
  rintro e w5 ⟨rfl, hon5, fm2, hb5, hl5, _, hv5⟩
  rw [sh_zero, sh_zero, HV1.out, HVh.out, HVm4.out] at hv5
  have HBm5 := hid hb5; have HLm5 := hid hl5; have HVm5 := hid (show vf fm2 K = Lm' by omega); have ON5 := hid (ON4.out.trans hon5)
  have HBl5 := hid (HBl4.out.only hon5 (by omega)); have HBh5 := hid (HBh4.out.only hon5 (by omega)); have HB5 := hid (HB4.out.only hon5 (by omega))
  clear hb5 hl5 hv5 hon5 HR1 HL1 HF1 HO1 HV1 HBl4 HBh4 HB4 HBm4 HLm4 HVm4 hkK hk1 ON4
  have p2c := pw_pos (2 * c)
  have pc := pw_pos c
  have q11 : 0 ≤ L11 * pw (2 * c) := Int.mul_nonneg p11 (Int.le_of_lt p2c)
  have qmm : 0 ≤ Lm' * pw c := Int.mul_nonneg pm (Int.le_of_lt pc)
  have Q11 := hid q11; have QM := hid qmm
  clear q11 qmm p2c pc
  go_wp2_with fail
  refine (addTo_c g o D cap N f (some ⟨gl, 0, none⟩) (c + c) (c + c) fl w5 HB5.out HF.out ho hN (HBl5.out.rd0 (Nat.le_refl _)) HLl.out (fun _ => off_some (by omega)) (by omega) hcap hcm (by rw [HVl.out]; have := ROOM.out; have := Q11.out; have := QM.out; omega)).mono ?_
  rintro e w6 ⟨rfl, hon6, f6, hb6, hl6, he6, hv6⟩
  rw [HVl.out] at hv6
  have HB6 := hid hb6; have HL6 := hid hl6; have HE6 := hid he6; have HV6 := hid hv6; have ON6 := hid hon6
  have HBh6 := hid (HBh5.out.only hon6 (by omega)); have HBm6 := hid (HBm5.out.only hon6 (by omega))
  clear hb6 hl6 he6 hv6 hon6 HBh5 HBm5 HBl5 HB5
  have r1 : ¬ (2 * c = cap) := by omega
  have r2 : ¬ (cap = 2 * c) := by omega
  have r3 : (2 * (c : Int)) ≤ (D : Int) := by omega
  have r4 : (2 * (c : Int)).toNat = 2 * c := by omega
  have hroom7 := piece_room (o := o) (i := 2 * c) (D := D) (N := N) (X := L11) (by omega) HL6.out ho HV6.out (by have := ROOM.out; have := QM.out; omega)
  have R7 := hid hroom7
  clear hroom7
  go_wp2_with fail
  refine (addTo_c g (o + 2 * c) (D - 2 * c) (cap - 2 * c) N f6 (some ⟨gh, 0, none⟩) (n - c + (m - c)) (n - c + (m - c)) fh w6 HB6.out HL6.out (by omega) hN (HBh6.out.rd0 (Nat.le_refl _)) HLh.out (fun _ => off_some (by omega)) (by omega) (by omega) (by omega) (by rw [HVh.out]; exact R7.out)).mono ?_
  rintro e w7 ⟨rfl, hon7, f7, hb7, hl7, he7, hv7⟩
  rw [HVh.out] at hv7
  have hv7' := piece_val (V := vf (sh f o) D + L00 + L11 * pw (2 * c)) (by omega) HV6.out he7 hv7 rfl
  have hroom8 := piece_room (o := o) (i := c) (D := D) (N := N) (X := Lm') (by omega) hl7 ho hv7' (by have := ROOM.out; omega)
  have lo8 := vf_nonneg (hl7.sh (o := o + c) (m := D - c) (by omega))
  have R8 := hid hroom8; have HB7 := hid hb7; have HL7 := hid hl7; have HV7 := hid hv7'; have ON7 := hid (ON6.out.trans hon7)
  have HE7 := hid (show ∀ j, j < o ∨ o + D ≤ j → f7 j = f j from fun j hj => (he7 j (by omega)).trans (HE6.out j hj))
  have LO8 := hid lo8
  have HBm7 := hid (HBm6.out.only hon7 (by omega))
  clear hroom8 hb7 hl7 hv7 hv7' he7 hon7 lo8 HB6 HL6 HE6 HV6 ON6 HBh6 HBm6 R7
  have r5 : ¬ (c = cap) := by omega
  have r6 : ¬ (cap = c) := by omega
  have r7 : (c : Int) ≤ (D : Int) := by omega
  go_wp2_with fail
  go_region_with (first | (go_at_call 137; refine (trim_at G K K fm2 _ (by exact HBm7.out) (Nat.le_refl _) (by omega) HLm5.out).mono ?_; rintro e wt ⟨rfl, x3, k3, d3, rfl, hoff3, hk3, hr3, hl3, hf3, hv3⟩; have HV3 := hid hv3; have HL3 := hid hl3; have HF3 := hid hf3; have HR3 := hid hr3; have HO3 := hid hoff3; clear hv3 hl3 hf3 hr3 hoff3) | (go_at_call 136; refine (addTo_c g (o + c) (D - c) (cap - c) N f7 x3 k3 d3 fm2 _ (by exact HB7.out) HL7.out (by omega) hN (by exact HR3.out) HL3.out (fun _ => HO3.out g (by omega)) (by exact mid_len HL3.out HF3.out (by rw [HV3.out, HVm5.out]; have := R8.out; have := LO8.out; omega)) (by omega) (by omega) (by rw [HV3.out, HVm5.out]; exact R8.out)).mono ?_; rintro e w8 ⟨rfl, hon8, f8, hb8, hl8, he8, hv8⟩; have HB8 := hid hb8; have HL8 := hid hl8; have HE8 := hid he8; have HV8 := hid hv8; clear hb8 hl8 he8 hv8))
  all_goals
    go_wp2
    have B5 : Below gl w' w5 := below_only BE3.out ON5.out (by omega) (by have := BE3.out.size; omega)
    rw [← hgl] at B5
    have O7 := (Only.of_below (g := g) B5).trans ON7.out
    have O8 : Only g w7 w8 := ⟨hon8.os, hon8.tape, hon8.output, hon8.size, hon8.block⟩
    have hv8 := HV8.out
    rw [HV3.out, HVm5.out] at hv8
    have hfin := piece_val (V := vf (sh f o) D + L00 + L11 * pw (2 * c) + Lm' * pw c) (by omega) HV7.out HE8.out hv8 rfl
    refine bodyPost_end (v := .tuple #[]) (results_none rfl _ _ _) rfl ⟨rfl, O7.trans O8, f8, HB8.out, HL8.out, fun j hj => (HE8.out j (by omega)).trans (HE7.out j hj), ?_⟩
    rw [hfin, HAn.out, HBn.out, HAll.out]

end Go.Proofs.YtclopblgdiahiaaGreatDoor
namespace Go.Proofs.YtclopblgdiahiaaGreatDoor
open Go.RowKit

set_option maxHeartbeats 2000000 in
/-- addProduct, where products of shorter lists are right. -/
theorem addProd_big (n m ca cb : Nat) (hn : n ≤ 2199023255552) (hm : m ≤ 2199023255552) (hca : n ≤ ca) (hcb : m ≤ cb) (hcam : ca ≤ 9223372036854775807) (hcbm : cb ≤ 9223372036854775807) (hn40 : 40 ≤ n) (hm40 : 40 ≤ m)
    (hih : ∀ k l x y, k + l < n + m → k ≤ x → l ≤ y → x ≤ 9223372036854775807 → y ≤ 9223372036854775807 → AddProdC k l x y) : AddProdC n m ca cb := by
  intro g o cap N f ao bo D fa fb w hb hf ho hD hN hra hrb ha hbb hoa hob hcap hcm hroom
  by_cases hsw : n < m
  · have hmul : vf fa n * vf fb m = vf fb m * vf fa n := Int.mul_comm _ _
    rw [hmul] at hroom ⊢
    obtain ⟨ba, oa, rfl⟩ := hrb.at (by omega)
    obtain ⟨bb, obb, rfl⟩ := hra.at (by omega)
    have hne_a : ba ≠ g := hob (by omega) _ rfl
    have hne_b : bb ≠ g := hoa (by omega) _ rfl
    obtain ⟨c, hc⟩ : ∃ c, c = (m + 1) / 2 := ⟨_, rfl⟩
    have CH := hid (half_c m c m w (by omega) rfl hc)
    by_cases hcut : n ≤ c
    · have C := hid (piece_c g o cap N f ba oa (some ⟨bb, obb, none⟩) m n cb ca D fb fa w hb hf ho (by omega) hN hrb hra hbb ha (hne_a) hoa hcap hcm hcb hcbm (by omega) (fun k x h1 h2 h3 => hih k n x ca (by omega) h2 hca (by omega) hcam) hroom)
      clear hroom hra hrb ha hbb hoa hob hb hf hih hc hne_a hne_b hmul
      go_enter Tryz.func167, Tryz.ntmps167
      go_wp2_with fail
      refine CH.out.mono ?_
      rintro e w' ⟨rfl, rfl⟩
      go_wp2_with fail
      refine C.out.mono ?_
      rintro e w' ⟨rfl, hrest⟩
      have HRest := hid hrest
      clear hrest
      go_wp2
      exact bodyPost_end (v := .tuple #[]) (results_none rfl _ _ _) rfl ⟨rfl, HRest.out⟩
    · have C := hid (cut_c g o cap N f ba oa bb obb m n cb ca D c fb fa w hb hf ho (by omega) hN hrb hra hbb ha hcap hcm hcb hcbm hca hcam hc (by omega) (by omega) (by omega) (by omega) (fun k l x y h => hih k l x y (by omega)) hroom)
      clear hroom hra hrb ha hbb hoa hob hb hf hih hc hne_a hne_b hmul
      go_enter Tryz.func167, Tryz.ntmps167
      go_wp2_with fail
      refine CH.out.mono ?_
      rintro e w' ⟨rfl, rfl⟩
      go_wp2_with fail
      refine C.out.mono ?_
      rintro e w' ⟨rfl, hrest⟩
      have HRest := hid hrest
      clear hrest
      go_wp2
      exact bodyPost_end (v := .tuple #[]) (results_none rfl _ _ _) rfl ⟨rfl, HRest.out⟩
  · skip
    obtain ⟨ba, oa, rfl⟩ := hra.at (by omega)
    obtain ⟨bb, obb, rfl⟩ := hrb.at (by omega)
    have hne_a : ba ≠ g := hoa (by omega) _ rfl
    have hne_b : bb ≠ g := hob (by omega) _ rfl
    obtain ⟨c, hc⟩ : ∃ c, c = (n + 1) / 2 := ⟨_, rfl⟩
    have CH := hid (half_c n c n w (by omega) rfl hc)
    by_cases hcut : m ≤ c
    · have C := hid (piece_c g o cap N f ba oa (some ⟨bb, obb, none⟩) n m ca cb D fa fb w hb hf ho (by omega) hN hra hrb ha hbb (hne_a) hob hcap hcm hca hcam (by omega) (fun k x h1 h2 h3 => hih k m x cb (by omega) h2 hcb (by omega) hcbm) hroom)
      clear hroom hra hrb ha hbb hoa hob hb hf hih hc hne_a hne_b
      go_enter Tryz.func167, Tryz.ntmps167
      go_wp2_with fail
      refine CH.out.mono ?_
      rintro e w' ⟨rfl, rfl⟩
      go_wp2_with fail
      refine C.out.mono ?_
      rintro e w' ⟨rfl, hrest⟩
      have HRest := hid hrest
      clear hrest
      go_wp2
      exact bodyPost_end (v := .tuple #[]) (results_none rfl _ _ _) rfl ⟨rfl, HRest.out⟩
    · have C := hid (cut_c g o cap N f ba oa bb obb n m ca cb D c fa fb w hb hf ho (by omega) hN hra hrb ha hbb hcap hcm hca hcam hcb hcbm hc (by omega) (by omega) (by omega) (by omega) (fun k l x y h => hih k l x y (by omega)) hroom)
      clear hroom hra hrb ha hbb hoa hob hb hf hih hc hne_a hne_b
      go_enter Tryz.func167, Tryz.ntmps167
      go_wp2_with fail
      refine CH.out.mono ?_
      rintro e w' ⟨rfl, rfl⟩
      go_wp2_with fail
      refine C.out.mono ?_
      rintro e w' ⟨rfl, hrest⟩
      have HRest := hid hrest
      clear hrest
      go_wp2
      exact bodyPost_end (v := .tuple #[]) (results_none rfl _ _ _) rfl ⟨rfl, HRest.out⟩

/-- addProduct: for all lists. -/
theorem addProd_all (s : Nat) : ∀ n m ca cb, n + m ≤ s → s ≤ 2199023255552 → n ≤ ca → m ≤ cb → ca ≤ 9223372036854775807 → cb ≤ 9223372036854775807 → AddProdC n m ca cb := by
  induction s with
  | zero => intro n m ca cb h _ _ _ _ _; exact (addProd_small n m (by omega)).at ca cb
  | succ s ih =>
    intro n m ca cb h hs h1 h2 h3 h4
    by_cases hsm : n < 40 ∨ m < 40
    · exact (addProd_small n m hsm).at ca cb
    · exact addProd_big n m ca cb (by omega) (by omega) h1 h2 h3 h4 (by omega) (by omega) (fun k l x y hk => ih k l x y (by omega) (by omega))

set_option maxHeartbeats 1000000 in
/-- mul: the product. -/
theorem mul_c (ao bo : Option Addr) (n m ca cb : Nat) (fa fb : Nat → Int) (w : World) (hn : n ≤ 1099511627776) (hm : m ≤ 1099511627776) (hca : n ≤ ca) (hcb : m ≤ cb) (hcam : ca ≤ 9223372036854775807) (hcbm : cb ≤ 9223372036854775807) (hra : Rd .u64 w ao n fa) (hrb : Rd .u64 w bo m fb) (ha : Lm fa n) (hb : Lm fb m) :
    Calls Tryz.prog 123 #[.slice ao n ca, .slice bo m cb] w fun e w' => ∃ ao' k cap' f', e = .returned (.slice ao' k cap') ∧ Res (n + m) w w' ao' k cap' f' ∧ vf f' k = vf fa n * vf fb m := by
  have c := product_c ao bo n m ca cb fa fb w (addProd_all (n + m) n m ca cb (Nat.le_refl _) (by omega) hca hcb hcam hcbm) (by omega) (by omega) hra hrb ha hb
  have C := hid c
  clear c ha hb hra hrb
  go_enter Tryz.func123, Tryz.ntmps123
  go_wp2_with fail
  refine C.out.mono ?_
  rintro e w1 ⟨rfl, hbel, f1, hb1, hl1, hv1⟩
  have HV1 := hid hv1
  clear hv1
  go_wp2_with fail
  refine (trim_res w.heap.size (n + m) (n + m) f1 w w1 hbel (Nat.le_refl _) hb1 (Nat.le_refl _) (by omega) hl1).mono ?_
  rintro e w2 ⟨rfl, ao', k, cap', rfl, hres, hkn, hv⟩
  have HV := hid hv
  clear hv
  go_wp2
  go_ret
  exact ⟨ao', k, cap', f1, rfl, hres, by rw [HV.out]; exact HV1.out⟩
end Go.Proofs.YtclopblgdiahiaaGreatDoor
namespace Go.Proofs.YtclopblgdiahiaaGreatDoor
open Go.RowKit

/-- The levels that so many pieces ask. -/
def lev (n : Nat) : Nat := if n ≤ 1 then 0 else Lib.bitLen (n - 1)

set_option maxHeartbeats 400000 in
theorem levels_c (n : Nat) (z : Int) (w : World) (hz : z = n) (hn : n ≤ 140737488355328) : Calls Tryz.prog 140 #[.int .i64 z] w fun e w' => e = .returned (.int .i64 (lev n)) ∧ w' = w := by
  subst hz
  by_cases h : n ≤ 1
  · have E := hid (show lev n = 0 by simp [lev, h])
    go_enter Tryz.func140, Tryz.ntmps140
    go_wp2
    go_ret
    exact ⟨by rw [E.out]; rfl, rfl⟩
  · have c := Tryz.bits_Len ((n : Int) - 1) w (by omega) (by omega)
    have e : ((n : Int) - 1).toNat = n - 1 := by omega
    rw [e] at c
    have E := hid (show lev n = Lib.bitLen (n - 1) by simp [lev, h])
    have C := hid c
    clear c e
    go_enter Tryz.func140, Tryz.ntmps140
    go_wp2_with fail
    refine C.out.mono ?_
    rintro e w' ⟨rfl, rfl⟩
    go_wp2
    go_ret
    exact ⟨by rw [E.out]; rfl, rfl⟩

/-- The slice's block is a row of limbs. -/
def Tg (w : World) (ao : Option Addr) : Prop := ∀ a, ao = some a → ∃ arr fr, w.heap[a.block]? = some (.cells arr 28 fr)
/-- A number in memory, of at most C limbs, in form. -/
def Num (w : World) (v : Value) (C : Nat) (V : Int) : Prop := ∃ ao n cap f, v = .slice ao n cap ∧ Rd .u64 w ao n f ∧ Tg w ao ∧ Lm f n ∧ Fm f n ∧ n ≤ C ∧ vf f n = V ∧ n ≤ cap ∧ cap ≤ 9223372036854775807
theorem Tg.und {w ao} (h : Tg w ao) : Und ao w.heap.size := fun a ha => by
  obtain ⟨arr, fr, e⟩ := h a ha
  exact (Array.getElem?_eq_some_iff.1 e).1
theorem Tg.below {w w' ao} (h : Tg w ao) (hb : Below w.heap.size w w') : Tg w' ao := fun a ha => by
  obtain ⟨arr, fr, e⟩ := h a ha
  exact ⟨arr, fr, by rw [hb.block _ (Array.getElem?_eq_some_iff.1 e).1]; exact e⟩
theorem Num.below {w w' v C V} (h : Num w v C V) (hb : Below w.heap.size w w') : Num w' v C V := by
  obtain ⟨ao, n, cap, f, rfl, h1, ht, h2, h3, h4, h5⟩ := h
  exact ⟨ao, n, cap, f, rfl, h1.below hb (Nat.le_refl _), ht.below hb, h2, h3, h4, h5⟩
/-- Another row was written, whose elements are no limbs. -/
theorem Tg.off {w ao g} (h : Tg w ao) {cur e fr} (hg : w.heap[g]? = some (.cells cur e fr)) (he : e ≠ 28) : Off ao g := fun a ha hag => by
  obtain ⟨arr, fr', e'⟩ := h a ha
  rw [hag, hg] at e'
  simp at e'
  exact he e'.2.1
theorem Num.only {w w' v C V g} (h : Num w v C V) (hb : Only g w w') {cur e fr} (hg : w.heap[g]? = some (.cells cur e fr)) (he : e ≠ 28) : Num w' v C V := by
  obtain ⟨ao, n, cap, f, rfl, h1, ht, h2, h3, h4, h5⟩ := h
  have ho := ht.off hg he
  refine ⟨ao, n, cap, f, rfl, h1.only hb ho, fun a ha => ?_, h2, h3, h4, h5⟩
  obtain ⟨arr, fr', e'⟩ := ht a ha
  exact ⟨arr, fr', by rw [hb.block _ (Array.getElem?_eq_some_iff.1 e').1 (ho a ha)]; exact e'⟩
theorem Num.grown {w w' v C V row} (h : Num w v C V) (hb : w.grownBy w' row) (hg : ∀ g, row = some g → ∃ cur fr, w.heap[g]? = some (.cells cur 22 fr)) : Num w' v C V := by
  cases row with
  | none => exact h.below ⟨hb.os, hb.tape, hb.output, hb.size, fun k hk => hb.block k hk (by simp)⟩
  | some g =>
    obtain ⟨cur, fr, e⟩ := hg g rfl
    exact h.only (g := g) ⟨hb.os, hb.tape, hb.output, hb.size, fun k hk hn => hb.block k hk (by simpa using hn)⟩ e (by decide)
theorem own_tag {w : World} {base e n v xs} (h : w.ownsRow base e 1 v n xs) : ∀ g, v.ownBlock = some g → ∃ cur fr, w.heap[g]? = some (.cells cur e fr) := by
  intro g hg
  rcases h.2 with ⟨rfl, _⟩ | ⟨g', cap, cur, rfl, hb, hgg, _⟩
  · simp [Value.ownBlock] at hg
  · simp [Value.ownBlock] at hg
    subst hg
    exact ⟨cur, _, hgg⟩
theorem Res.num {C w w' ao n cap f} (h : Res C w w' ao n cap f) (hC : C ≤ 9223372036854775807) : Num w' (.slice ao n cap) C (vf f n) := by
  refine ⟨ao, n, cap, f, rfl, h.rd, fun a ha => ?_, h.lm, h.fm, h.le, rfl, h.ncap.1, by have := h.ncap; omega⟩
  rcases h.own with ⟨rfl, _⟩ | ⟨g, rfl, _, _, _, _, hb⟩
  · cases ha
  · cases ha
    obtain ⟨arr, e, _⟩ := hb
    exact ⟨arr, _, e⟩
theorem Num.mono {w v C C' V} (h : Num w v C V) (hC : C ≤ C') : Num w v C' V := by
  obtain ⟨ao, n, cap, f, rfl, h1, ht, h2, h3, h4, h5⟩ := h
  exact ⟨ao, n, cap, f, rfl, h1, ht, h2, h3, by omega, h5⟩
theorem snoc_get {vs : List Value} {v u : Value} {j : Nat} (h : (vs ++ [v])[j]? = some u) : vs[j]? = some u ∨ j = vs.length ∧ u = v := by
  rcases Nat.lt_trichotomy j vs.length with hl | rfl | hl
  · rw [List.getElem?_append_left hl] at h; exact .inl h
  · simp at h; exact .inr ⟨rfl, h.symm⟩
  · rw [List.getElem?_eq_none (by simp; omega)] at h; cases h

/-- The base of so many doublings. -/
def tens (j : Nat) : Int := 10 ^ (19 * 2 ^ j)
theorem tens_succ (j : Nat) : tens (j + 1) = tens j * tens j := by
  unfold tens
  rw [← Int.pow_add, Nat.pow_succ]; congr 1; omega
/-- The bases, in memory. -/
def Bas (w : World) (bo : Option Addr) (c : Nat) : Prop := ∀ j, j < c → ∃ b u arr fr, bo = some ⟨b, 0, none⟩ ∧ w.heap[b]? = some (.cells arr 22 fr) ∧ w.cell? ⟨b, j, none⟩ = some u ∧ Num w u (2 ^ j) (tens j)
theorem Bas.take {w bo c c'} (h : Bas w bo c) (hc : c' ≤ c) : Bas w bo c' := fun j hj => h j (by omega)
theorem Bas.below {w w' bo c} (h : Bas w bo c) (hb : Below w.heap.size w w') : Bas w' bo c := fun j hj => by
  obtain ⟨b, u, arr, fr, e1, e2, e3, e4⟩ := h j hj
  have hl := (Array.getElem?_eq_some_iff.1 e2).1
  exact ⟨b, u, arr, fr, e1, (hb.block b hl).trans e2, (World.cell?_of_block (hb.block b hl)).trans e3, e4.below hb⟩
theorem Bas.only {w w' bo c g} (h : Bas w bo c) (hb : Only g w w') {cur e fr} (hg : w.heap[g]? = some (.cells cur e fr)) (he : e ≠ 28) (he2 : e ≠ 22) : Bas w' bo c := fun j hj => by
  obtain ⟨b, u, arr, fr, e1, e2, e3, e4⟩ := h j hj
  have hl := (Array.getElem?_eq_some_iff.1 e2).1
  have hbg : b ≠ g := fun h => by
    rw [h, hg] at e2
    simp at e2
    exact he2 e2.2.1
  exact ⟨b, u, arr, fr, e1, (hb.block b hl hbg).trans e2, (World.cell?_of_block (hb.block b hl hbg)).trans e3, e4.only hb hg he⟩
theorem Tryz.infoSl : (Tryz.prog.info? 22).map (fun i => (i.zero, i.size, i.bytes)) = some (some (.slice none 0 0), 1, 24) := by kernel_rfl

set_option maxRecDepth 100000 in
set_option maxHeartbeats 2000000 in
/-- bases: the bases of 1, 2, 4 .. pieces. -/
theorem bases_c (count : Nat) (w : World) (hc : count ≤ 40) :
    Calls Tryz.prog 142 #[.int .i64 count] w fun e w' => ∃ (bo : Option Addr) (cap : Nat), e = .returned (.slice bo count cap) ∧ Below w.heap.size w w' ∧ count ≤ cap ∧ cap ≤ maxLen ∧ (bo = none → cap = 0) ∧ Bas w' bo count := by
  obtain ⟨i0, hi, hz0, hz1, hz2⟩ := info_parts Tryz.infoSl
  go_enter Tryz.func142, Tryz.ntmps142
  go_wp2
  go_loopw [3, 4, 8] (fun v vb c wr => ∃ (k : Nat) (vs : List Value), k ≤ count ∧ c = .int .i64 k ∧ Below w.heap.size w wr ∧ Hid (wr.ownsRow w.heap.size 22 1 v k vs) ∧ Hid (∀ j u, vs[j]? = some u → Num wr u (2 ^ j) (tens j)) ∧ Hid (Num wr vb (2 ^ (k - 1)) (tens (k - 1)))) (fun _ _ c _ => count - (intOf c).toNat)
  case atStart =>
    refine ⟨0, [], by omega, rfl, (Below.refl _ _).alloc (Nat.le_refl _) _, World.ownsRow_nil _ _ _ _, fun j u h => by simp at h, ?_⟩
    refine ⟨_, 1, 1, fun _ => 10000000000000000000, rfl, rd_new1 w _ _, fun a ha => ?_, lm_const (by decide) (by decide) 1, .inr (by show (10000000000000000000 : Int) ≠ 0; decide), by decide, ?_, by decide, by decide⟩
    · cases ha; exact ⟨_, _, heap_alloc_new w _⟩
    · simp [vf, pw, tens]
  case round =>
    obtain ⟨k, vs, hk, rfl, hbl, OO, NA, HB⟩ := hrel
    by_cases hlt : k < count
    · obtain ⟨ab, nb, cb, fb, hvb, hr, ht, hl, hf, hn, hv, hcb1, hcb2⟩ := HB.out
      subst hvb
      have RB := hid hr; have TB := hid ht; have LB := hid hl; have FB := hid hf; have VB := hid hv
      clear hr ht hl hf hv
      by_cases h0 : k = 0
      · subst h0
        have NB := HB
        clear HB RB TB LB FB VB
        go_wp2_with (at_builtin; refine wpList_append_own _ rfl (.tmp 16) (.tmp 18) 139 rfl w.heap.size 22 i0 (.slice none 0 0) 1 24 Tryz.underlying139 hi hz0 hz1 hz2 rfl (by decide) _ 0 vs rfl (World.ownsRow.alloc OO.out _) ⟨wr.heap.size, 0, none⟩ 1 1 [.slice ab nb cb] rfl rfl ?c1 ?c2 ?c3 ?c4 ?c5 ?_)
        case c1 =>
          intro j u hj
          match j, hj with
          | 0, hj => simp at hj; subst hj; simp [Addr.add]
        case c2 => intro u hu; simp at hu; subst hu; rfl
        case c3 => unfold maxLen; omega
        case c4 => omega
        case c5 => have := hbl.size; simp; omega
        intro v' w' hown hgr _
        have hba : Below wr.heap.size wr (wr.alloc _) := (Below.refl _ _).alloc (Nat.le_refl _) (.cells #[.slice ab nb cb] 22)
        have tag := own_tag (World.ownsRow.alloc OO.out (.cells #[.slice ab nb cb] 22))
        have N2 := hid (show Num w' (.slice ab nb cb) (2 ^ 0) (tens 0) from (NB.out.below hba).grown hgr tag)
        have A2 := hid (show ∀ j u, (vs ++ [.slice ab nb cb])[j]? = some u → Num w' u (2 ^ j) (tens j) from fun j u hu => by
          rcases snoc_get hu with h | ⟨rfl, rfl⟩
          · exact ((NA.out j u h).below hba).grown hgr tag
          · rw [show vs.length = 0 by have := OO.out.1; omega]; exact N2.out)
        have hbl2 : Below w.heap.size w w' := (hbl.alloc hbl.size _).grown hgr (by have := hbl.size; simp; omega) (fun g hg => (World.ownsRow.lt OO.out g hg).1)
        have HO2 := hid hown
        clear hown hgr tag hba OO NA NB
        go_wp2
        go_roundw
        case rel => exact ⟨1, vs ++ [Value.slice ab nb cb], by omega, by go_num, hbl2, HO2.out, A2.out, N2.out⟩
        case measure => simp [intOf]; omega
      · have hnb : nb ≤ 2 ^ (count - 2) := Nat.le_trans hn (Nat.pow_le_pow_right (by omega) (by omega))
        have hnb2 : nb ≤ 2 ^ 38 := Nat.le_trans hnb (Nat.pow_le_pow_right (by omega) (by omega))
        have hnb3 : nb ≤ 274877906944 := hnb2
        have hgt : (0 : Int) < k := by omega
        clear HB
        have C := hid (mul_c ab ab nb nb cb cb fb fb wr (by omega) (by omega) hcb1 hcb1 hcb2 hcb2 RB.out RB.out LB.out LB.out)
        go_wp2_with fail
        refine C.out.mono ?_
        clear C RB TB LB FB
        rintro e w1 ⟨ab, nb', cb, f1, rfl, hres, hv1⟩
        rw [VB.out, ← tens_succ, show k - 1 + 1 = k by omega] at hv1
        have NB := hid (show Num w1 (.slice ab nb' cb) (2 ^ k) (tens k) from by
          have := hres.num (by omega)
          rw [hv1] at this
          exact this.mono (by have : 2 ^ k = 2 ^ (k - 1) * 2 := by rw [← Nat.pow_succ, show (k - 1).succ = k by omega]
                              omega))
        have hb1 := hres.bel
        have OO' := hid (World.ownsRow.kept OO.out ⟨hb1.os, hb1.tape, hb1.output, hb1.size, fun k hk _ => hb1.block k hk⟩ (row := none) (by
          cases hvv : Value.ownBlock _ with
          | none => exact .inl rfl
          | some x => exact .inr (by simp)))
        have NA' := hid (fun j u h => (NA.out j u h).below hb1)
        have hbl' := hbl.trans (hb1.mono hbl.size)
        clear OO NA hbl hres hv1 VB hb1
        have OO := OO'; have NA := NA'; have hbl := hbl'
        clear OO' NA' hbl'
        go_wp2_with (at_builtin; refine wpList_append_own _ rfl (.tmp 16) (.tmp 18) 139 rfl w.heap.size 22 i0 (.slice none 0 0) 1 24 Tryz.underlying139 hi hz0 hz1 hz2 rfl (by decide) _ k vs rfl (World.ownsRow.alloc OO.out _) ⟨w1.heap.size, 0, none⟩ 1 1 [.slice ab nb' cb] rfl rfl ?d1 ?d2 ?d3 ?d4 ?d5 ?_)
        case d1 =>
          intro j u hj
          match j, hj with
          | 0, hj => simp at hj; subst hj; simp [Addr.add]
        case d2 => intro u hu; simp at hu; subst hu; rfl
        case d3 => unfold maxLen; omega
        case d4 => omega
        case d5 => have := hbl.size; simp; omega
        intro v' w' hown hgr _
        have hba : Below w1.heap.size w1 (w1.alloc _) := (Below.refl _ _).alloc (Nat.le_refl _) (.cells #[.slice ab nb' cb] 22)
        have tag := own_tag (World.ownsRow.alloc OO.out (.cells #[.slice ab nb' cb] 22))
        have N2 := hid (show Num w' (.slice ab nb' cb) (2 ^ k) (tens k) from (NB.out.below hba).grown hgr tag)
        have A2 := hid (show ∀ j u, (vs ++ [.slice ab nb' cb])[j]? = some u → Num w' u (2 ^ j) (tens j) from fun j u hu => by
          rcases snoc_get hu with h | ⟨rfl, rfl⟩
          · exact ((NA.out j u h).below hba).grown hgr tag
          · rw [show vs.length = k by have := OO.out.1; omega]; exact N2.out)
        have hbl2 : Below w.heap.size w w' := (hbl.alloc hbl.size _).grown hgr (by have := hbl.size; simp; omega) (fun g hg => (World.ownsRow.lt OO.out g hg).1)
        have HO2 := hid hown
        clear hown hgr tag hba OO NA NB
        go_wp2
        go_roundw
        case rel => exact ⟨k + 1, vs ++ [Value.slice ab nb' cb], by omega, by go_num, hbl2, HO2.out, A2.out, N2.out⟩
        case measure => simp [intOf]; omega
    · have hkc : k = count := by omega
      subst hkc
      have hlen := OO.out.1
      rcases OO.out.2 with ⟨hv, hk0⟩ | ⟨g, cap, cur, hv, hb, hg, hn, hm, hs, ht⟩
      · subst hv
        subst hk0
        clear OO HB
        go_wp2
        go_ret
        exact ⟨none, 0, rfl, hbl, by omega, by unfold maxLen; omega, fun _ => rfl, fun j hj => by omega⟩
      · subst hv
        have HG := hid hg; have HT := hid ht; have HS := hid hs
        clear OO HB hg ht hs
        go_wp2
        go_ret
        refine ⟨some ⟨g, 0, none⟩, cap, rfl, hbl, hn, hm, (fun h => by cases h), fun j hj => ?_⟩
        have hu : vs[j]? = some (vs[j]'(by omega)) := List.getElem?_eq_getElem (by omega)
        have hnum := NA.out j _ hu
        have hg := HG.out
        refine ⟨g, _, cur, _, rfl, hg, ?_, hnum⟩
        rw [← hu, ← HT.out, List.getElem?_take, if_pos (by omega)]
        simp [World.cell?, hg]
end Go.Proofs.YtclopblgdiahiaaGreatDoor
namespace Go.Proofs.YtclopblgdiahiaaGreatDoor
open Go.RowKit

/-- The table of powers of ten lies as the program's text lays it. -/
def Tab (w : World) : Prop := Lib.TabIs Tryz.prog w "internal/strconv.uint64pow10" .u64 Lib.pow10Tab
theorem tab_gl : Tryz.prog.globalNamed "internal/strconv.uint64pow10" = some 5 := by kernel_rfl
theorem Tab.of {w w' : World} (h : Tab w) (he : w'.heap[5]? = w.heap[5]?) : Tab w' := by
  unfold Tab Lib.TabIs World.var? at *
  rw [tab_gl] at h ⊢
  simp only [Option.bind_some] at h ⊢
  rw [he]; exact h
theorem Tab.lt {w : World} (h : Tab w) : 5 < w.heap.size := by
  unfold Tab Lib.TabIs World.var? at h
  rw [tab_gl] at h
  simp only [Option.bind_some] at h
  rcases Nat.lt_or_ge 5 w.heap.size with h' | h'
  · exact h'
  · rw [Array.getElem?_eq_none h'] at h; simp at h
theorem Tab.below {w w' : World} {B : Nat} (h : Tab w) (hb : Below B w w') (hB : 5 < B) : Tab w' := h.of (hb.block _ hB)
theorem Tab.only {w w' : World} {g : Nat} (h : Tab w) (hb : Only g w w') (hg : 5 < g) : Tab w' := h.of (hb.block _ h.lt (by omega))

/-- divMod does its work at these numbers. -/
def DivOk (X Y : Int) : Prop := ∀ (ao bo : Option Addr) (n m ca cb : Nat) (f h : Nat → Int) (w : World), n ≤ 8796093022208 → m ≤ 8796093022208 → Rd .u64 w ao n f → Rd .u64 w bo m h → Lm f n → Lm h m → Fm f n → Fm h m → vf f n = X → vf h m = Y →
    Calls Tryz.prog 112 #[.slice ao n ca, .slice bo m cb] w fun e w' => ∃ a1 k1 c1 q a2 k2 c2 r, e = .returned (.tuple #[.slice a1 k1 c1, .slice a2 k2 c2]) ∧ Res n w w' a1 k1 c1 q ∧ Res (n + 1) w w' a2 k2 c2 r ∧ vf f n = vf q k1 * vf h m + vf r k2 ∧ 0 ≤ vf r k2 ∧ vf r k2 < vf h m
theorem divOk_small {X Y : Int} (hY : 0 < Y) (h : Y < 18446744073709551616 ∨ X < Y) : DivOk X Y := by
  intro ao bo n m ca cb f h' w hn hm hr hs hf hh ff fh hX hY'
  refine divMod_small ao bo n m ca cb f h' w hn hm hr hs hf hh ff fh ?_
  rcases h with h | h
  · left
    have h1 : m ≤ 1 := by
      refine vf_len (f := h') (g := fun _ => Y) (m := 1) hh (lm_const (Int.le_of_lt hY) h 1) fh ?_
      rw [hY']; simp [vf, pw]
    have h2 : m ≠ 0 := fun h0 => by subst h0; simp [vf] at hY'; omega
    omega
  · right; omega

theorem dgi_hi {V H R c : Nat} (hV : V = H * 10 ^ c + R) (hR : R < 10 ^ c) (e : Nat) : dgi H e = dgi V (c + e) := by
  unfold dgi
  have : V / 10 ^ (c + e) = H / 10 ^ e := by
    rw [Nat.pow_add, ← Nat.div_div_eq_div_mul, hV]
    congr 1
    rw [Nat.add_comm, Nat.add_mul_div_right _ _ (Nat.pow_pos (by omega)), Nat.div_eq_of_lt hR]; omega
  rw [this]
theorem dgi_lo {V H R c : Nat} (hV : V = H * 10 ^ c + R) (e : Nat) (he : e < c) : dgi R e = dgi V e := by
  unfold dgi
  have h1 : 10 ^ c = 10 ^ e * (10 * 10 ^ (c - e - 1)) := by
    rw [← Nat.pow_succ', ← Nat.pow_add]; congr 1; omega
  have : V / 10 ^ e % 10 = R / 10 ^ e % 10 := by
    rw [hV, h1, ← Nat.mul_assoc, Nat.mul_comm H, Nat.mul_assoc, Nat.add_comm, Nat.add_mul_div_left _ _ (Nat.pow_pos (by omega))]
    rw [← Nat.mul_assoc, Nat.mul_comm H 10, Nat.mul_assoc, Nat.add_mul_mod_self_left]
  rw [this]

/-- A number in memory, of at most C limbs, in form; whatever block it lies in. -/
def Nu (w : World) (v : Value) (C : Nat) (V : Int) : Prop := ∃ ao n cap f, v = .slice ao n cap ∧ Rd .u64 w ao n f ∧ Lm f n ∧ Fm f n ∧ n ≤ C ∧ vf f n = V ∧ n ≤ cap ∧ cap ≤ 9223372036854775807
theorem Num.nu {w v C V} (h : Num w v C V) : Nu w v C V := by
  obtain ⟨ao, n, cap, f, rfl, h1, _, h2, h3, h4, h5⟩ := h
  exact ⟨ao, n, cap, f, rfl, h1, h2, h3, h4, h5⟩
theorem Nu.below {w w' v C V} (h : Nu w v C V) (hb : Below w.heap.size w w') : Nu w' v C V := by
  obtain ⟨ao, n, cap, f, rfl, h1, h2, h3, h4, h5⟩ := h
  exact ⟨ao, n, cap, f, rfl, h1.below hb (Nat.le_refl _), h2, h3, h4, h5⟩

set_option maxRecDepth 100000 in
set_option maxHeartbeats 2000000 in
/-- putDigits: the digits of a number below the last base squared. -/
theorem putDigits_c (M : Int) (c : Nat) : ∀ (_ : ∀ j, j < c → ∀ X, 0 ≤ X → X ≤ M → DivOk X (tens j)) (g o L cap N : Nat) (t : Nat → Int) (ao : Option Addr) (n ca C : Nat) (V : Nat) (bo : Option Addr) (cb : Nat) (w : World) (_ : Blk .u8 5 w g N t) (_ : o + L ≤ N) (_ : N ≤ 140737488355328) (_ : L = 19 * 2 ^ c) (_ : L ≤ cap) (_ : cap ≤ 140737488355328)
    (_ : Nu w (.slice ao n ca) C V) (_ : C + c ≤ 4398046511104) (_ : V < 10 ^ L) (_ : (V : Int) ≤ M) (_ : Bas w bo c) (_ : c ≤ cb) (_ : cb ≤ maxLen) (_ : c ≤ 30) (_ : Tab w) (_ : 5 < g),
    Calls Tryz.prog 141 #[.slice (some ⟨g, o, none⟩) L cap, .slice ao n ca, .slice bo c cb] w fun e w' => e = .returned (.tuple #[]) ∧ Only g w w' ∧
      ∃ t', Blk .u8 5 w' g N t' ∧ (∀ j, j < o ∨ o + L ≤ j → t' j = t j) ∧ (∀ j, j < L → t' (o + j) = dgi V (L - 1 - j)) := by
  induction c with
  | zero =>
    intro hdiv g o L cap N t ao n ca C V bo cb w hb ho hN hL hcap hcm hnum hC hV hVM hbas hcb hcbm hc30 htab hg
    simp at hL
    subst hL
    obtain ⟨ao', n', ca', f, hv, hr, hl, hf, hn, hvf, _⟩ := hnum
    cases hv
    have hV64 : V < 18446744073709551616 := by have : 10 ^ 19 < 18446744073709551616 := by decide
                                               omega
    have hn1 : n ≤ 1 := by
      refine vf_len (f := f) (g := fun _ => (V : Int)) (m := 1) hl (lm_const (by omega) (by omega) 1) hf ?_
      rw [hvf]; simp [vf, pw]
    have he : ext f n 0 = V := by
      rcases (show n = 0 ∨ n = 1 by omega) with rfl | rfl
      · simp [vf] at hvf; rw [ext_out _ _ _ (by omega)]; omega
      · rw [ext_in _ _ _ (by omega)]; simpa [vf, pw] using hvf
    have c1 := limbAt_c ao n ca f 0 w (by omega) (by omega) hr
    rw [he] at c1
    have c2 := putPiece_c g o 19 cap N t V w hb ho hN (by omega) hcap hcm hV hV64 htab
    have C1 := hid c1; have C2 := hid c2
    clear c1 c2 hb hr hl hf hvf he hbas htab hdiv hV
    go_enter Tryz.func141, Tryz.ntmps141
    go_wp2_with fail
    refine C1.out.mono ?_
    rintro e w1 ⟨rfl, rfl⟩
    go_wp2_with fail
    refine C2.out.mono ?_
    rintro e w1 ⟨rfl, hrest⟩
    have HRest := hid hrest
    clear hrest
    go_wp2
    exact bodyPost_ret (v := .tuple #[]) (results_none rfl _ _ _) rfl ⟨rfl, HRest.out⟩
  | succ c ih =>
    intro hdiv g o L cap N t ao n ca C V bo cb w hb ho hN hL hcap hcm hnum hC hV hVM hbas hcb hcbm hc30 htab hg
    have IH := hid (ih (fun j hj => hdiv j (by omega)))
    obtain ⟨K, hK⟩ : ∃ K, K = 19 * 2 ^ c := ⟨_, rfl⟩
    have hLK : L = 2 * K := by rw [hL, hK, Nat.pow_succ]; omega
    have hKt : tens c = ((10 ^ K : Nat) : Int) := by rw [hK]; simp [tens]
    obtain ⟨ao', n', ca', f, hv, hr, hl, hf, hn, hvf, _⟩ := hnum
    cases hv
    obtain ⟨b, u, arr, fr, rfl, hbt, hbc, hbn⟩ := hbas c (by omega)
    obtain ⟨a1, n1, c1, f1, rfl, hr1, ht1, hl1, hf1, hn1, hvf1, _⟩ := hbn
    have hn1b : n1 ≤ 1073741824 := Nat.le_trans hn1 (Nat.pow_le_pow_right (n := 2) (by omega) (show c ≤ 30 by omega))
    have cd := hdiv c (by omega) V (by omega) hVM ao a1 n n1 ca c1 f f1 w (by omega) (by omega) hr hr1 hl hl1 hf hf1 hvf hvf1
    rw [hvf, hvf1, hKt] at cd
    have CD := hid cd; have HB := hid hbas; have HBk := hid hb; have HT := hid htab; have HV := hid hV
    have HK := hid hK
    clear cd hbas hb htab hV hr hl hf hvf hr1 ht1 hl1 hf1 hvf1 hKt ih hdiv hK hL hbt
    have hK1 : 1 ≤ K := by rw [HK.out]; have := Nat.pow_pos (n := c) (show 0 < 2 by omega); omega
    subst hLK
    unfold maxLen at hcbm
    go_enter Tryz.func141, Tryz.ntmps141
    go_wp2_with fail
    refine CD.out.mono ?_
    rintro e w1 ⟨q1, k1, e1, fq, q2, k2, e2, fr', rfl, hres1, hres2, hdv, hr0, hr1⟩
    have hq0 := vf_nonneg hres1.lm
    obtain ⟨H, hH⟩ : ∃ H : Nat, vf fq k1 = H := ⟨(vf fq k1).toNat, by omega⟩
    obtain ⟨R, hR⟩ : ∃ R : Nat, vf fr' k2 = R := ⟨(vf fr' k2).toNat, by omega⟩
    rw [hH, hR] at hdv
    rw [hR] at hr1
    have hVn : V = H * 10 ^ K + R := by exact_mod_cast hdv
    have hRl : R < 10 ^ K := by exact_mod_cast hr1
    have hHl : H < 10 ^ K := by
      have := HV.out
      rw [hVn, show 2 * K = K + K by omega, Nat.pow_add] at this
      apply Nat.lt_of_not_le; intro h
      have := Nat.mul_le_mul_right (10 ^ K) h
      omega
    have hHM : (H : Int) ≤ M := by
      have h1 : H * 1 ≤ H * 10 ^ K := Nat.mul_le_mul_left H (Nat.pow_pos (by omega))
      have h2 : H ≤ V := by omega
      omega
    have hRM : (R : Int) ≤ M := by
      have h2 : R ≤ V := by omega
      omega
    have N1 := hid (show Num w1 (.slice q1 k1 e1) n (H : Int) by have := hres1.num (by omega); rw [hH] at this; exact this)
    have N2 := hid (show Num w1 (.slice q2 k2 e2) (n + 1) (R : Int) by have := hres2.num (by omega); rw [hR] at this; exact this)
    have hb1 := hres1.bel
    have HBk1 := hid (HBk.out.below hb1 HBk.out.lt)
    have HB1 := hid ((HB.out.below hb1).take (show c ≤ c + 1 by omega))
    have HT1 := hid (HT.out.below hb1 HT.out.lt)
    have hon1 : Only g w w1 := Only.of_below hb1
    have HVn := hid hVn; have HRl := hid hRl; have HHl := hid hHl
    clear hVn hRl hHl hdv hr1 hr0 hH hR hq0 hres1 hres2 hb1 HBk HB HT CD HV hbc
    have hcut : 2 * (K : Int) / 2 = K := by omega
    have hne1 : ¬ (K = cap) := by omega
    have hne2 : ¬ (cap = K) := by omega
    have hne3 : ¬ (cap - K = 0) := by omega
    have h2K : 2 * K - K = K := by omega
    have H2K := hid h2K
    clear h2K
    have CA := hid (fun W (h1 : Blk .u8 5 W g N t) (h2 : Num W (.slice q1 k1 e1) n (H : Int)) (h3 : Bas W (some ⟨b, 0, none⟩) c) (h4 : Tab W) => IH.out g o K cap N t q1 k1 e1 n H (some ⟨b, 0, none⟩) cb W h1 (by omega) hN HK.out (by omega) hcm h2.nu (by omega) HHl.out hHM h3 (by omega) (by unfold maxLen; omega) (by omega) h4 hg)
    have CB := hid (fun t W (h1 : Blk .u8 5 W g N t) (h2 : Num W (.slice q2 k2 e2) (n + 1) (R : Int)) (h3 : Bas W (some ⟨b, 0, none⟩) c) (h4 : Tab W) => IH.out g (o + K) (2 * K - K) (cap - K) N t q2 k2 e2 (n + 1) R (some ⟨b, 0, none⟩) cb W h1 (by omega) hN (by rw [H2K.out]; exact HK.out) (by omega) (by omega) h2.nu (by omega) (by rw [H2K.out]; exact HRl.out) hRM h3 (by omega) (by unfold maxLen; omega) (by omega) h4 hg)
    clear IH
    go_wp2_with fail
    go_region_with (go_at_call 141; refine (CA.out _ (by exact HBk1.out) (by exact N1.out) (by exact HB1.out) (by exact HT1.out)).mono ?_; rintro e w2 ⟨rfl, hon2, t2, hb2, he2, hd2⟩)
    all_goals
      have hon2' : Only g w1 w2 := (Only.refl g w1).drew.trans hon2
      obtain ⟨curx, hgx, _, _⟩ := id HBk1.out
      have N2' := hid (N2.out.only hon2' hgx (by decide))
      have HB2' := hid (HB1.out.only hon2' hgx (by decide) (by decide))
      have HT2' := hid (HT1.out.only hon2' hg)
      have HE2 := hid he2; have HD2 := hid hd2; have HBk2 := hid hb2
      clear he2 hd2 hb2 hgx hon2
      go_wp2_with fail
      go_region_with (go_at_call 141; refine (CB.out t2 _ (by exact HBk2.out) (by exact N2'.out) (by exact HB2'.out) (by exact HT2'.out)).mono ?_; rintro e w3 ⟨rfl, hon3, t3, hb3, he3, hd3⟩)
      all_goals
        have HE3 := hid he3; have HD3 := hid hd3; have HBk3 := hid hb3
        clear he3 hd3 hb3
        go_wp2
        refine bodyPost_end (v := .tuple #[]) (results_none rfl _ _ _) rfl ⟨rfl, (hon1.trans hon2').drew.trans hon3, t3, HBk3.out, fun j hj => ?_, fun j hj => ?_⟩
        · exact (HE3.out j (by omega)).trans (HE2.out j (by omega))
        · by_cases hjk : j < K
          · rw [HE3.out _ (by omega), HD2.out j hjk, dgi_hi HVn.out HRl.out]
            congr 1; omega
          · have e1 := HD3.out (j - K) (by omega)
            rw [show o + K + (j - K) = o + j by omega] at e1
            rw [e1, H2K.out, dgi_lo HVn.out _ (by omega)]
            congr 1; omega
end Go.Proofs.YtclopblgdiahiaaGreatDoor
namespace Go.Proofs.YtclopblgdiahiaaGreatDoor
open Go.ChangeShapes Go.WideShapes Go.ChangeAt Go.RowKit

theorem Tryz.own : ownKnob Tryz.prog.godebug = none := by kernel_rfl
theorem Tryz.laidOut : laidOutB Tryz.prog = true := by kernel_rfl
theorem Tryz.cellsU64 : Tryz.prog.cellsOf 28 = 1 := by kernel_rfl
theorem Tryz.read22 : Tryz.prog.readableRec 22 = true := by kernel_rfl
theorem Tryz.size22 : 22 < Tryz.prog.types.size := of_decide_eq_true (by kernel_rfl)

set_option maxRecDepth 100000 in
/-- An argument that is a list of limbs. -/
theorem view {H : Type} {enc : TypeId × Value → H} {W : World} {base : Nat} {v : Value} {d : DataW H} {p : List MemPlace} (hok : Value.okWide Tryz.prog W .any base 22 v) (h : DataW.Trod enc Tryz.prog W 0 (fun _ => true) true 22 v d p) :
    ∃ ao n cap f, v = .slice ao n cap ∧ Rd .u64 W ao n f ∧ Lm f n ∧ (ao = none → n = 0 ∧ cap = 0) ∧ n ≤ 9223372036854775807 := by
  obtain ⟨a0, len, cap, hv⟩ := okWide_slice Tryz.underlying22 hok
  subst hv
  obtain ⟨fuel, hf⟩ := h
  rcases open_ints Tryz.underlying22 Tryz.underlying28 Tryz.cellsU64 hf with ⟨hcs, hx⟩ | ⟨a, len', cap', zs, hcs, _, hl, hm, hz, hx, hcell, hwz⟩
  · simp [Value.cells] at hcs
    obtain ⟨rfl, rfl, rfl⟩ := hcs
    exact ⟨none, 0, 0, fun _ => 0, rfl, Rd.zero, fun j hj => by omega, fun _ => ⟨rfl, rfl⟩, by omega⟩
  · simp [Value.cells] at hcs
    obtain ⟨rfl, rfl, rfl⟩ := hcs
    simp only [if_true] at hz
    refine ⟨some a, len, cap, fun j => zs.getD j 0, rfl, fun j hj => ?_, fun j hj => ?_, (fun h => by cases h), by unfold maxLen at hm; omega⟩
    · obtain ⟨b, off, spot⟩ := a
      have hspot : spot = none := by simpa [Addr.add] using World.cell?_spot (hcell 0 (by omega))
      subst hspot
      exact ⟨b, off, rfl, by have := hcell j (by omega); rwa [addr_add] at this⟩
    · have hmem : zs.getD j 0 ∈ zs := by
        rw [List.getD_eq_getElem?_getD, List.getElem?_eq_getElem (by omega)]
        exact List.getElem_mem _
      have := bounds_u64 (hwz _ hmem)
      show 0 ≤ zs.getD j 0 ∧ zs.getD j 0 < 18446744073709551616
      omega

/-- The listed tables. -/
def tabs : List (String × DataW Unit) := Rows.wholeKeepsRow.laid
theorem pow10_datum : (Rows.laid_internal_strconv_uint64pow10 : DataW Unit) = Lib.tabData .u64 Lib.pow10Tab := by kernel_rfl
theorem tab_third {P : Program} {W : World} {n1 n2 name : String} {d1 d2 : DataW Unit} {k : IntKind} {zs : List Int} {rest : List (String × DataW Unit)} {g : Nat} {t e : TypeId} {n : Nat}
    (hg : P.globalNamed name = some g) (hty : (P.globals[g]?).map (·.type) = some t) (ht : P.underlying t = some (.array n e)) (he : P.underlying e = some (.int k)) (hce : P.cellsOf e = 1) (hct : P.cellsOf t = n)
    (h : laidMet P ((n1, d1) :: (n2, d2) :: (name, Lib.tabData k zs) :: rest) W) : Lib.TabIs P W name k zs := by
  obtain ⟨ps, hv, _⟩ := h
  obtain ⟨_, _, _, _, _, q1, _, _, _, _, hv2, _⟩ := hv
  obtain ⟨_, _, _, _, _, q2, _, _, _, _, hv3, _⟩ := hv2
  obtain ⟨g', t', cs, fuel, p, q, hg', ht', hvar, hd, _, _⟩ := hv3
  obtain rfl := Option.some.inj (hg.symm.trans hg')
  obtain rfl := Option.some.inj (hty.symm.trans ht')
  unfold Lib.TabIs
  rw [hvar, ← Lib.cells_of_tab ht he hce hct hd]
theorem tab_ty : (Tryz.prog.globals[5]?).map (·.type) = some 195 := by kernel_rfl
theorem tab_cells : Tryz.prog.cellsOf 195 = 20 := by kernel_rfl
theorem tab_of {W : World} (h : laidMetH Tryz.prog tabs W) : Tab W := by
  have h' : laidMet Tryz.prog (("math/bits.deBruijn32tab", Rows.laid_math_bits_deBruijn32tab) :: ("math/bits.deBruijn64tab", Rows.laid_math_bits_deBruijn64tab) :: ("internal/strconv.uint64pow10", Lib.tabData .u64 Lib.pow10Tab) :: [("unicode/utf8.acceptRanges", Rows.laid_unicode_utf8_acceptRanges), ("unicode/utf8.first", Rows.laid_unicode_utf8_first)]) W := by
    rw [← pow10_datum]; exact h
  exact tab_third tab_gl tab_ty Tryz.underlying195 Tryz.underlying28 Tryz.cellsU64 tab_cells h'

def cellOf : DataW Unit → List Value
  | .lit (.int k z) => [.int k z]
  | _ => []
def cells1 : DataW Unit → List Value
  | .agg l => l.flatMap cellOf
  | _ => []
def cells2 : DataW Unit → List Value
  | .agg l => l.flatMap cells1
  | _ => []
def setc (cs : List Value) : Obj → Obj
  | .cells _ t fr => .cells cs.toArray t fr
  | o => o
/-- The world with the tables as the program's text lays them. -/
def layTabs (w : World) : World := { w with heap := (((((w.heap.modify 6 (setc (cells1 Rows.laid_math_bits_deBruijn32tab))).modify 7 (setc (cells1 Rows.laid_math_bits_deBruijn64tab))).modify 5 (setc (cells1 Rows.laid_internal_strconv_uint64pow10))).modify 4 (setc (cells2 Rows.laid_unicode_utf8_acceptRanges))).modify 3 (setc (cells1 Rows.laid_unicode_utf8_first))) }
end Go.Proofs.YtclopblgdiahiaaGreatDoor
namespace Go.Proofs.YtclopblgdiahiaaGreatDoor
open Go.ChangeShapes Go.WideShapes Go.ChangeAt Go.RowKit

theorem Tryz.readW : Tryz.prog.readableRec 24 = true := by kernel_rfl
theorem Tryz.sizeW : 24 < Tryz.prog.types.size := of_decide_eq_true (by kernel_rfl)
theorem Tryz.cellsW : Tryz.prog.cellsOf 24 = 2 := by kernel_rfl
theorem Tryz.cellsB : Tryz.prog.cellsOf 4 = 1 := by kernel_rfl
theorem Tryz.cellsL : Tryz.prog.cellsOf 22 = 1 := by kernel_rfl

set_option maxRecDepth 100000 in
/-- A list of limbs inside an argument. -/
theorem viewL {H : Type} {enc : TypeId × Value → H} {W : World} {fuel : Nat} {v : Value} {x : DataW H × List MemPlace} (h : DataW.trod enc Tryz.prog W 0 (fun _ => true) true fuel 22 [v] = some x) :
    ∃ ao n cap f, v = .slice ao n cap ∧ Rd .u64 W ao n f ∧ Lm f n ∧ (ao = none → n = 0 ∧ cap = 0) ∧ n ≤ cap ∧ cap ≤ 9223372036854775807 := by
  rcases open_ints Tryz.underlying22 Tryz.underlying28 Tryz.cellsU64 h with ⟨hcs, hx⟩ | ⟨a, len', cap', zs, hcs, _, hl, hm, hz, hx, hcell, hwz⟩
  · simp at hcs
    subst hcs
    exact ⟨none, 0, 0, fun _ => 0, rfl, Rd.zero, fun j hj => by omega, fun _ => ⟨rfl, rfl⟩, by omega, by omega⟩
  · simp at hcs
    subst hcs
    simp only [if_true] at hz
    refine ⟨some a, len', cap', fun j => zs.getD j 0, rfl, fun j hj => ?_, fun j hj => ?_, (fun h => by cases h), hl, by unfold maxLen at hm; omega⟩
    · obtain ⟨b, off, spot⟩ := a
      have hspot : spot = none := by simpa [Addr.add] using World.cell?_spot (hcell 0 (by omega))
      subst hspot
      exact ⟨b, off, rfl, by have := hcell j (by omega); rwa [addr_add] at this⟩
    · have hmem : zs.getD j 0 ∈ zs := by
        rw [List.getD_eq_getElem?_getD, List.getElem?_eq_getElem (by omega)]
        exact List.getElem_mem _
      have := bounds_u64 (hwz _ hmem)
      show 0 ≤ zs.getD j 0 ∧ zs.getD j 0 < 18446744073709551616
      omega
set_option maxRecDepth 100000 in
/-- An argument that is a whole number. -/
theorem viewW {H : Type} {enc : TypeId × Value → H} {W : World} {base : Nat} {v : Value} {d : DataW H} {p : List MemPlace} (hok : Value.okWide Tryz.prog W .any base 24 v) (h : DataW.Trod enc Tryz.prog W 0 (fun _ => true) true 24 v d p) :
    ∃ s ao n cap f, v = .agg #[.bool s, .slice ao n cap] ∧ Rd .u64 W ao n f ∧ Lm f n ∧ (ao = none → n = 0 ∧ cap = 0) ∧ n ≤ cap ∧ cap ≤ 9223372036854775807 := by
  obtain ⟨cs, rfl, hsz⟩ := okWide_struct Tryz.underlying24 hok
  rw [Tryz.cellsW] at hsz
  obtain ⟨fuel, hf⟩ := h
  obtain ⟨y0, y1, k, hx, hl, h0, h1⟩ := trod_struct2 Tryz.underlying24 hf
  obtain ⟨l⟩ := cs
  match l, hsz with
  | [c0, c1], _ =>
    have h0' : DataW.trod enc Tryz.prog W 0 (fun _ => true) true k 4 [c0] = some y0 := h0
    have h1' : DataW.trod enc Tryz.prog W 0 (fun _ => true) true k 22 [c1] = some y1 := h1
    obtain ⟨s, hs, _⟩ := DataW.trod_bool Tryz.underlying4 h0'
    obtain ⟨ao, n, cap, f, rfl, hr, hlm, hnil, hc⟩ := viewL h1'
    simp at hs
    subst hs
    exact ⟨s, ao, n, cap, f, rfl, hr, hlm, hnil, hc⟩
end Go.Proofs.YtclopblgdiahiaaGreatDoor
namespace Go.Proofs.YtclopblgdiahiaaGreatDoor
open Go.RowKit

/-- Nothing but blocks from lo on and below hi has turned; there may be new blocks. -/
structure Turned (lo hi : Nat) (w w' : World) : Prop where
  os : w'.os = w.os
  tape : w'.tape = w.tape
  output : w'.output = w.output
  size : w.heap.size ≤ w'.heap.size
  block : ∀ k, k < w.heap.size → k < lo ∨ hi ≤ k → w'.heap[k]? = w.heap[k]?
theorem Turned.refl (lo hi : Nat) (w : World) : Turned lo hi w w := ⟨rfl, rfl, rfl, Nat.le_refl _, fun _ _ _ => rfl⟩
theorem Turned.trans {lo hi : Nat} {a b c : World} (h : Turned lo hi a b) (k : Turned lo hi b c) : Turned lo hi a c :=
  ⟨k.os.trans h.os, k.tape.trans h.tape, k.output.trans h.output, Nat.le_trans h.size k.size, fun i hi hn => (k.block i (Nat.lt_of_lt_of_le hi h.size) hn).trans (h.block i hi hn)⟩
theorem Turned.set {lo hi : Nat} {a w : World} (h : Turned lo hi a w) {x : Addr} (h1 : lo ≤ x.block) (h2 : x.block < hi) (u : Value) : Turned lo hi a (w.setCell x u) :=
  h.trans ⟨rfl, rfl, rfl, by simp [World.setCell], fun k _ hn => Below.heap_setCell _ _ _ _ (by omega)⟩
theorem Turned.alloc {lo hi : Nat} {a w : World} (h : Turned lo hi a w) (o : Obj) : Turned lo hi a (w.alloc o) :=
  h.trans ⟨rfl, rfl, rfl, by simp, fun k hk _ => Below.heap_alloc _ _ _ hk⟩
theorem Turned.drew {lo hi : Nat} {a w : World} (h : Turned lo hi a w) : Turned lo hi a w.drew := ⟨h.os, h.tape, h.output, h.size, h.block⟩
theorem Turned.below {lo hi : Nat} {a w w' : World} (h : Turned lo hi a w) (hb : Below w.heap.size w w') : Turned lo hi a w' :=
  h.trans ⟨hb.os, hb.tape, hb.output, hb.size, fun k hk _ => hb.block k hk⟩
theorem below_turned {B : Nat} {w0 w w' : World} (hb : Below B w0 w) (hB : B ≤ w.heap.size) {lo hi : Nat} (h : Turned lo hi w w') (hl : B ≤ lo) : Below B w0 w' :=
  hb.trans ⟨h.os, h.tape, h.output, h.size, fun k hk => h.block k (by omega) (.inl (by omega))⟩
theorem Own.of {k e w w' base ao n cap f} (h : Own k e w base (.slice ao n cap) n f) (hh : ∀ a, ao = some a → w'.heap[a.block]? = w.heap[a.block]?) : Own k e w' base (.slice ao n cap) n f := by
  obtain ⟨h1, h2⟩ := h
  refine ⟨h1, ?_⟩
  rcases h2 with ⟨h3, h4⟩ | ⟨g, cap', cur, hv, hb, hg, hn, hm, hs, ht⟩
  · exact .inl ⟨h3, h4⟩
  · cases hv
    exact .inr ⟨g, cap, cur, rfl, hb, (hh _ rfl).trans hg, hn, hm, hs, ht⟩
theorem Own.base {k e w base base' v n f} (h : Own k e w base v n f) (hb : base' ≤ base) : Own k e w base' v n f := by
  obtain ⟨h1, h2⟩ := h
  refine ⟨h1, ?_⟩
  rcases h2 with ⟨h3, h4⟩ | ⟨g, cap', cur, hv, hb', hg, hn, hm, hs, ht⟩
  · exact .inl ⟨h3, h4⟩
  · exact .inr ⟨g, cap', cur, hv, Nat.le_trans hb hb', hg, hn, hm, hs, ht⟩
theorem Own.slice {k e w base ao n cap f} (h : Own k e w base (.slice ao n cap) n f) : n ≤ cap ∧ cap ≤ 9223372036854775807 ∧ (ao = none → n = 0 ∧ cap = 0) ∧ Rd k w ao n f ∧ ∀ a, ao = some a → base ≤ a.block ∧ a.block < w.heap.size := by
  obtain ⟨ao', cap', e', h1, h2, h3, h4, h5⟩ := h.shape
  cases e'
  refine ⟨h1, by unfold maxLen at h3; omega, fun e => ⟨by have := h2 e; omega, h2 e⟩, h4, h5⟩
end Go.Proofs.YtclopblgdiahiaaGreatDoor
namespace Go.Proofs.YtclopblgdiahiaaGreatDoor
open Go.RowKit

/-- A list in memory: where it lies, its length, its room, its numbers. -/
structure Ls where
  p : Option Addr
  n : Nat
  c : Nat
  f : Nat → Int
/-- The list lies in a block of its own. -/
def Lo (k : IntKind) (e : TypeId) (w : World) (l : Ls) : Prop := Own k e w 0 (.slice l.p l.n l.c) l.n l.f
def updL (L : Nat → Ls) (i : Nat) (l : Ls) : Nat → Ls := fun j => if j = i then l else L j
theorem updL_same (L : Nat → Ls) (i : Nat) (l : Ls) : updL L i l i = l := by simp [updL]
theorem updL_other (L : Nat → Ls) (i : Nat) (l : Ls) (j : Nat) (h : j ≠ i) : updL L i l j = L j := by simp [updL, h]
/-- Block g is a row of N lists. -/
def Fam (e : TypeId) (w : World) (g N : Nat) (L : Nat → Ls) : Prop :=
  ∃ arr : Array Value, w.heap[g]? = some (.cells arr e (0, 0)) ∧ arr.size = N ∧ ∀ j, j < N → arr[j]? = some (.slice (L j).p (L j).n (L j).c)
theorem Fam.cell {e w g N L} (h : Fam e w g N L) {j : Nat} (hj : j < N) : w.cell? ⟨g, j, none⟩ = some (.slice (L j).p (L j).n (L j).c) := by
  obtain ⟨arr, h1, h2, h3⟩ := h
  simp [World.cell?, h1, h3 j hj]
theorem Fam.frozen {e w g N L} (h : Fam e w g N L) (j : Nat) : w.frozen? ⟨g, j, none⟩ = false := by
  obtain ⟨arr, h1, h2, h3⟩ := h
  simp [World.frozen?, h1]
theorem Fam.lt {e w g N L} (h : Fam e w g N L) : g < w.heap.size := by
  obtain ⟨arr, h1, h2, h3⟩ := h
  exact (Array.getElem?_eq_some_iff.1 h1).1
theorem Fam.of {e w w' g N L} (h : Fam e w g N L) (he : w'.heap[g]? = w.heap[g]?) : Fam e w' g N L := by
  obtain ⟨arr, h1, h2, h3⟩ := h
  exact ⟨arr, he.trans h1, h2, h3⟩
theorem Fam.set {e w g N L} (h : Fam e w g N L) (i : Nat) (l : Ls) : Fam e (w.setCell ⟨g, i, none⟩ (.slice l.p l.n l.c)) g N (updL L i l) := by
  obtain ⟨arr, h1, h2, h3⟩ := h
  refine ⟨arr.setIfInBounds i (.slice l.p l.n l.c), ?_, by simpa using h2, fun j hj => ?_⟩
  · simp [World.setCell, Array.getElem?_modify, h1]
  · by_cases hji : j = i
    · subst hji; rw [updL_same]; simp [h2, hj]
    · rw [Array.getElem?_setIfInBounds, if_neg (by omega), h3 j hj, updL_other _ _ _ _ hji]
theorem Fam.congr {e w g N L L'} (h : Fam e w g N L) (he : ∀ j, j < N → (L j).p = (L' j).p ∧ (L j).n = (L' j).n ∧ (L j).c = (L' j).c) : Fam e w g N L' := by
  obtain ⟨arr, h1, h2, h3⟩ := h
  exact ⟨arr, h1, h2, fun j hj => by rw [h3 j hj, (he j hj).1, (he j hj).2.1, (he j hj).2.2]⟩

theorem own_at {k e w base a n c f} (h : Own k e w base (.slice (some a) n c) n f) : ∃ g, a = ⟨g, 0, none⟩ ∧ g < w.heap.size := by
  obtain ⟨h1, h2⟩ := h
  rcases h2 with ⟨h3, h4⟩ | ⟨g, cap', cur, hv, hb', hg, hn, hm, hs, ht⟩
  · cases h3
  · cases hv
    exact ⟨g, rfl, (Array.getElem?_eq_some_iff.1 hg).1⟩
theorem own_frozen {k e w base g n c f} (h : Own k e w base (.slice (some ⟨g, 0, none⟩) n c) n f) (j : Nat) : w.frozen? ⟨g, j, none⟩ = false := by
  obtain ⟨h1, h2⟩ := h
  rcases h2 with ⟨h3, h4⟩ | ⟨g, cap', cur, hv, hb', hg, hn, hm, hs, ht⟩
  · cases h3
  · cases hv
    simp [World.frozen?, hg]
theorem own_set {k e w base g n c f} (h : Own k e w base (.slice (some ⟨g, 0, none⟩) n c) n f) {j : Nat} (hj : j < n) (x : Int) : Own k e (w.setCell ⟨g, j, none⟩ (.int k x)) base (.slice (some ⟨g, 0, none⟩) n c) n (upd f j x) := by
  obtain ⟨h1, h2⟩ := h
  refine ⟨by rw [lst_length]; omega, ?_⟩
  rcases h2 with ⟨h3, h4⟩ | ⟨g, cap', cur, hv, hb', hg, hn, hm, hs, ht⟩
  · cases h3
  · cases hv
    refine .inr ⟨g, c, cur.setIfInBounds j (.int k x), rfl, hb', ?_, hn, hm, by simpa using hs, ?_⟩
    · simp [World.setCell, Array.getElem?_modify, hg]
    · apply List.ext_getElem?
      intro i
      by_cases hi : i < n
      · rw [List.getElem?_take, if_pos (by omega), lst_get _ _ _ _ hi]
        have e1 : cur.toList[i]? = some (.int k (f i)) := by
          have : (cur.toList.take (n * 1))[i]? = (lst k f n)[i]? := by rw [ht]
          rw [lst_get _ _ _ _ hi, List.getElem?_take, if_pos (by omega)] at this
          exact this
        by_cases hij : i = j
        · subst hij
          have hl : i < cur.size := by rw [hs]; omega
          simp [upd, hl]
        · simp only [Array.toList_setIfInBounds, List.getElem?_set, upd, hij]
          rw [if_neg (by omega), e1]; simp
      · rw [List.getElem?_eq_none (by simp; omega), List.getElem?_eq_none (by rw [lst_length]; omega)]

/-- 'out = append(out, s...)', out the call's own (or nil), s whatever but not empty: and where the answer lies. -/
theorem wpList_append_where {P : Program} (k : IntKind) (w : World) {ops : Array Oper} {rest : List Oper} {o : Oper} {a : Act} {Q : Exit → Act → World → Prop} (hgd : o.guard = none) (s x : Operand) (t : TypeId)
    (ho : o.op = .call { callee := .builtin .append, args := #[s, x], argTypes := #[t, t] })
    (base : Nat) (e : TypeId) (bytes : Nat) (ht : P.underlying t = some (.slice e)) (h2 : (P.info? e).map (fun i => (i.zero, i.size, i.bytes)) = some (some (.int k 0), 1, bytes))
    (ao : Option Addr) (n cap : Nat) (f : Nat → Int) (hs : a.eval s = .slice ao n cap) (hown : Own k e w base (.slice ao n cap) n f)
    (b ob m c : Nat) (h : Nat → Int) (hx : a.eval x = .slice (some ⟨b, ob, none⟩) m c) (hr : Rd k w (some ⟨b, ob, none⟩) m h) (hm0 : 0 < m)
    (h63 : n + m ≤ maxLen) (hbytes : (n + m) * bytes ≤ 140737488355328) (hbase : base ≤ w.heap.size)
    (hK : ∀ g cap' w', Own k e w' base (.slice (some ⟨g, 0, none⟩) (n + m) cap') (n + m) (cat f n h) → w.grownBy w' (Value.ownBlock (.slice ao n cap)) → (g = w.heap.size ∨ ao = some ⟨g, 0, none⟩) → wpList P ops Q rest (a.put o.dst (.slice (some ⟨g, 0, none⟩) (n + m) cap')) w') : wpList P ops Q (o :: rest) a w := by
  obtain ⟨i, hi, hz0, hz1, hz2⟩ := info_parts h2
  subst hz2
  have hl : (lst k h m).length = m * 1 := by rw [lst_length, Nat.mul_one]
  have hnews : ∀ j u, (lst k h m)[j]? = some u → w.cell? ((⟨b, ob, none⟩ : Addr).add j) = some u := by
    intro j u hu
    obtain ⟨hj, rfl⟩ := lst_getE hu
    have := hr.cell hj
    rw [addr_add]; exact this
  obtain ⟨v', w', hrun, h1', h2', h3'⟩ := run_append_own (P := P) w base t o.type e i (.int k 0) 1 i.bytes ht hi hz0 hz1 rfl rfl (by decide) (.slice ao n cap) n (lst k f n) hown ⟨b, ob, none⟩ m c (lst k h m) hl hnews (lst_one k h m) h63 hbytes hbase
  have hw : ∃ g cap', v' = .slice (some ⟨g, 0, none⟩) (n + m) cap' ∧ (g = w.heap.size ∨ ao = some ⟨g, 0, none⟩) := by
    have hlz : (lst k h m).length = m * i.size := by rw [hz1]; exact hl
    have hsm : n + m ≤ 9223372036854775807 := by unfold maxLen at h63; omega
    rcases hown.2 with ⟨hv, rfl⟩ | ⟨g, cap2, cur, hv, hbg, hg, hnc, hcm, hcs, htake⟩
    · cases hv
      have e1 := run_append_nil (P := P) w t o.type e i (.int k 0) ht hi hz0 ⟨b, ob, none⟩ m c (lst k h m) hlz hnews hm0 (by omega) (by rw [Nat.zero_add] at hbytes; omega)
      rw [e1] at hrun
      injection hrun with e2 e3
      exact ⟨_, _, by rw [← e2, Nat.zero_add], .inl rfl⟩
    · cases hv
      by_cases hroom : n + m ≤ cap
      · have e1 := run_append_room (P := P) w t o.type e i ht hi g n cap cur hg ⟨b, ob, none⟩ m c (lst k h m) hlz hnews (lst_one k h m) hroom (by rw [lst_length, hcs, hz1]; omega)
        rw [e1] at hrun
        injection hrun with e2 e3
        exact ⟨_, _, e2.symm, .inr rfl⟩
      · have holds : ∀ j u, (lst k f n)[j]? = some u → w.cell? ((⟨g, 0, none⟩ : Addr).add j) = some u := World.ownsRow.cells hown (g := g) rfl
        have e1 := run_append_grow (P := P) w t o.type e i (.int k 0) ht hi hz0 ⟨g, 0, none⟩ n cap (lst k f n) (by rw [lst_length, hz1]; omega) holds ⟨b, ob, none⟩ m c (lst k h m) hlz hnews (by omega) (by omega) (growslice_fits (by omega) hbytes)
        rw [e1] at hrun
        injection hrun with e2 e3
        exact ⟨_, _, e2.symm, .inl rfl⟩
  obtain ⟨g, cap', rfl, hg⟩ := hw
  rw [lst_cat] at h1'
  refine wpList_plain hgd fun _ hK' => ?_
  unfold Oper.wp execOp
  simp only [ho, resolve, invoke, builtin, Sem.run_bind, Sem.run_pure, Result.andThen_ok, List.map_toArray, List.map_cons, List.map_nil, hs, hx, hrun]
  exact hK' _ _ (hK g cap' w' h1' h2' hg)
end Go.Proofs.YtclopblgdiahiaaGreatDoor
namespace Go.Proofs.YtclopblgdiahiaaGreatDoor
open Go.RowKit

theorem Turned.set' {lo hi : Nat} {a w : World} (h : Turned lo hi a w) {x : Addr} (h1 : lo ≤ x.block ∧ x.block < hi ∨ a.heap.size ≤ x.block) (u : Value) : Turned lo hi a (w.setCell x u) :=
  ⟨h.os, h.tape, h.output, by simpa [World.setCell] using h.size, fun k hk hn => (Below.heap_setCell _ _ _ _ (by omega)).trans (h.block k hk hn)⟩
theorem Turned.grown {lo hi : Nat} {a w w' : World} (h : Turned lo hi a w) {row : Option Nat} (hg : w.grownBy w' row) (h1 : ∀ g, row = some g → lo ≤ g ∧ g < hi ∨ a.heap.size ≤ g) : Turned lo hi a w' :=
  ⟨hg.os.trans h.os, hg.tape.trans h.tape, hg.output.trans h.output, Nat.le_trans h.size hg.size, fun k hk hn => (hg.block k (Nat.lt_of_lt_of_le hk h.size) (fun e => by have := h1 k e.symm; omega)).trans (h.block k hk hn)⟩
theorem Turned.drewN {lo hi : Nat} {a w : World} (h : Turned lo hi a w) (q : Nat) : Turned lo hi a (w.drewN q) := ⟨h.os, h.tape, h.output, h.size, h.block⟩
theorem Turned.bel {lo hi : Nat} {a w : World} (h : Turned lo hi a w) {B : Nat} (hB : B ≤ lo) (hs : B ≤ a.heap.size) : Below B a w := ⟨h.os, h.tape, h.output, h.size, fun k hk => h.block k (by omega) (.inl (by omega))⟩
theorem Lo.of {k e w w' l} (h : Lo k e w l) (hh : ∀ a, l.p = some a → w'.heap[a.block]? = w.heap[a.block]?) : Lo k e w' l := Own.of h hh
theorem Lo.rd {k e w l} (h : Lo k e w l) : Rd k w l.p l.n l.f := (Own.slice h).2.2.2.1
theorem Lo.lt {k e w l} (h : Lo k e w l) : ∀ a, l.p = some a → a.block < w.heap.size := fun a ha => ((Own.slice h).2.2.2.2 a ha).2
theorem Lo.alloc {k e w l} (h : Lo k e w l) (o : Obj) : Lo k e (w.alloc o) l := Own.alloc h o
theorem Fam.alloc {e w g N L} (h : Fam e w g N L) (o : Obj) : Fam e (w.alloc o) g N L := h.of (Below.heap_alloc _ _ _ h.lt)

/-- A list that was spoiled, with its mark. -/
def Sp (i : Nat) (l : Ls) : Prop := 0 < l.n ∧ l.n ≤ 4096 ∧ l.f (l.n - 1) = 9000 + (i : Int) ∧ (1 < l.n → l.f 0 = 100 * (i : Int))

/-- The first round, at list i. -/
structure K1 (N s1 s2 : Nat) (w5 w : World) (g1 i o : Nat) (one L : Nat → Ls) : Prop where
  tur : Turned s1 s2 w5 w
  fam : Fam 22 w g1 N L
  own : ∀ j, j < N → Lo .u64 28 w (L j)
  old : ∀ j, o ≤ j → j < N → L j = one j
  new : ∀ j, j < i → Sp j (L j)
  dis : ∀ j k, j < N → k < N → j ≠ k → Apart (L j).p (L k).p
  loc : ∀ j, j < N → ∀ a, (L j).p = some a → a.block ≠ g1 ∧ (s1 ≤ a.block ∧ a.block < s2 ∨ w5.heap.size ≤ a.block)
  gs : s1 ≤ g1 ∧ g1 < s2

theorem K1.drewN {N s1 s2 w5 w g1 i o one L} (h : K1 N s1 s2 w5 w g1 i o one L) (q : Nat) : K1 N s1 s2 w5 (w.drewN q) g1 i o one L := ⟨h.tur.drewN q, h.fam, h.own, h.old, h.new, h.dis, h.loc, h.gs⟩
theorem K1.alloc {N s1 s2 w5 w g1 i o one L} (h : K1 N s1 s2 w5 w g1 i o one L) (ob : Obj) : K1 N s1 s2 w5 (w.alloc ob) g1 i o one L := ⟨h.tur.alloc ob, h.fam.alloc ob, fun j hj => (h.own j hj).alloc ob, h.old, h.new, h.dis, h.loc, h.gs⟩
theorem K1.mono {N s1 s2 w5 w g1 i o one L} (h : K1 N s1 s2 w5 w g1 i o one L) : K1 N s1 s2 w5 w g1 i (o + 1) one L := ⟨h.tur, h.fam, h.own, fun j hj => h.old j (by omega), h.new, h.dis, h.loc, h.gs⟩
theorem K1.store {N s1 s2 w5 w g1 i o one L} (h : K1 N s1 s2 w5 w g1 i o one L) (hi : i < N) (ho : i < o) {g j : Nat} (hp : (L i).p = some ⟨g, 0, none⟩) (hj : j < (L i).n) (x : Int) :
    K1 N s1 s2 w5 (w.setCell ⟨g, j, none⟩ (.int .u64 x)) g1 i o one (updL L i ⟨(L i).p, (L i).n, (L i).c, upd (L i).f j x⟩) := by
  obtain ⟨l1, l2⟩ := h.loc i hi _ hp
  have hL : ∀ k, (updL L i ⟨(L i).p, (L i).n, (L i).c, upd (L i).f j x⟩ k).p = (L k).p ∧ (updL L i ⟨(L i).p, (L i).n, (L i).c, upd (L i).f j x⟩ k).n = (L k).n ∧ (updL L i ⟨(L i).p, (L i).n, (L i).c, upd (L i).f j x⟩ k).c = (L k).c := by
    intro k
    by_cases hk : k = i
    · subst hk; rw [updL_same]; exact ⟨rfl, rfl, rfl⟩
    · rw [updL_other _ _ _ _ hk]; exact ⟨rfl, rfl, rfl⟩
  refine ⟨h.tur.set' (x := ⟨g, j, none⟩) l2 _, (h.fam.of (Below.heap_setCell _ ⟨g, j, none⟩ _ _ (fun e => l1 e.symm))).congr (fun k _ => ⟨(hL k).1.symm, (hL k).2.1.symm, (hL k).2.2.symm⟩), ?_, ?_, ?_, ?_, ?_, h.gs⟩
  · intro k hk
    by_cases hki : k = i
    · subst hki
      rw [updL_same]
      have := h.own k hk
      unfold Lo at this ⊢
      rw [hp] at this ⊢
      exact own_set this hj x
    · rw [updL_other _ _ _ _ hki]
      refine (h.own k hk).of (fun a ha => Below.heap_setCell _ _ _ _ ?_)
      exact (show a.block ≠ g from h.dis k i hk hi hki a _ ha hp)
  · intro k hk hk8
    rw [updL_other _ _ _ _ (by omega)]; exact h.old k hk hk8
  · intro k hk
    rw [updL_other _ _ _ _ (by omega)]; exact h.new k hk
  · intro a b ha hb hab
    rw [(hL a).1, (hL b).1]; exact h.dis a b ha hb hab
  · intro k hk a ha
    rw [(hL k).1] at ha; exact h.loc k hk a ha
theorem K1.grow {N s1 s2 w5 w w' g1 i one L} (h : K1 N s1 s2 w5 w g1 i (i + 1) one L) (hi : i < N) {g n' c' : Nat} {f' : Nat → Int} (hg : w.grownBy w' (Value.ownBlock (.slice (L i).p (L i).n (L i).c)))
    (hown : Own .u64 28 w' 0 (.slice (some ⟨g, 0, none⟩) n' c') n' f') (hw : g = w.heap.size ∨ (L i).p = some ⟨g, 0, none⟩) (hs : Sp i ⟨some ⟨g, 0, none⟩, n', c', f'⟩) :
    K1 N s1 s2 w5 (w'.setCell ⟨g1, i, none⟩ (.slice (some ⟨g, 0, none⟩) n' c')) g1 (i + 1) (i + 1) one (updL L i ⟨some ⟨g, 0, none⟩, n', c', f'⟩) ∧ Fam 22 w' g1 N L := by
  have hrow : ∀ b, Value.ownBlock (.slice (L i).p (L i).n (L i).c) = some b → ∃ a, (L i).p = some a ∧ a.block = b := by
    intro b hb
    cases hp : (L i).p with
    | none => rw [hp] at hb; cases hb
    | some a => rw [hp] at hb; exact ⟨a, rfl, by simpa [Value.ownBlock] using hb⟩
  have hkeep : ∀ k, k < w.heap.size → (∀ a, (L i).p = some a → a.block ≠ k) → w'.heap[k]? = w.heap[k]? := by
    intro k hk hn
    refine hg.block k hk (fun e => ?_)
    obtain ⟨a, ha, hb⟩ := hrow k e.symm
    exact hn a ha hb
  have hfam : Fam 22 w' g1 N L := h.fam.of (hkeep g1 h.fam.lt (fun a ha => (h.loc i hi a ha).1))
  have hgw : w5.heap.size ≤ w.heap.size := h.tur.size
  have hg1 := h.fam.lt
  have hgg : g ≠ g1 ∧ (s1 ≤ g ∧ g < s2 ∨ w5.heap.size ≤ g) := by
    rcases hw with rfl | hw
    · exact ⟨by omega, .inr hgw⟩
    · exact h.loc i hi _ hw
  have htur : Turned s1 s2 w5 w' := h.tur.grown hg (fun b hb => by
    obtain ⟨a, ha, rfl⟩ := hrow b hb
    exact (h.loc i hi a ha).2)
  have hap : ∀ k, k < N → k ≠ i → ∀ a, (L k).p = some a → a.block ≠ g := by
    intro k hk hki a ha
    rcases hw with rfl | hw
    · exact Nat.ne_of_lt ((h.own k hk).lt a ha)
    · exact h.dis k i hk hi hki a _ ha hw
  refine ⟨⟨htur.set' (.inl h.gs) _, hfam.set i ⟨some ⟨g, 0, none⟩, n', c', f'⟩, ?_, ?_, ?_, ?_, ?_, h.gs⟩, hfam⟩
  · intro k hk
    by_cases hki : k = i
    · subst hki
      rw [updL_same]
      exact Own.of hown (fun a ha => by cases ha; exact Below.heap_setCell _ _ _ _ hgg.1)
    · rw [updL_other _ _ _ _ hki]
      refine (h.own k hk).of (fun a ha => ?_)
      exact (Below.heap_setCell _ _ _ _ (h.loc k hk a ha).1).trans (hkeep _ ((h.own k hk).lt a ha) (fun b hb e => h.dis k i hk hi hki a b ha hb e.symm))
  · intro k hk hk8
    rw [updL_other _ _ _ _ (by omega)]; exact h.old k hk hk8
  · intro k hk
    by_cases hki : k = i
    · subst hki; rw [updL_same]; exact hs
    · rw [updL_other _ _ _ _ hki]; exact h.new k (by omega)
  · intro a b ha hb hab
    by_cases hai : a = i
    · subst hai
      rw [updL_same, updL_other _ _ _ _ (fun e => hab e.symm)]
      intro x y hx hy
      cases hx
      exact fun e => hap b hb (fun e => hab e.symm) y hy e.symm
    · rw [updL_other _ _ _ _ hai]
      by_cases hbi : b = i
      · subst hbi
        rw [updL_same]
        intro x y hx hy
        cases hy
        exact hap a ha hai x hx
      · rw [updL_other _ _ _ _ hbi]; exact h.dis a b ha hb hab
  · intro k hk a ha
    by_cases hki : k = i
    · subst hki
      rw [updL_same] at ha
      cases ha
      exact hgg
    · rw [updL_other _ _ _ _ hki] at ha; exact h.loc k hk a ha

/-- The second round, at list i: what was ahead of it and what is behind it stays. -/
structure K2 (N s2 s3 : Nat) (w6 w : World) (g2 i : Nat) (two : Nat → Ls) : Prop where
  tur : Turned s2 s3 w6 w
  fam : ∃ M, Fam 22 w g2 N M ∧ ∀ j, i ≤ j → j < N → M j = two j
  own : ∀ j, i ≤ j → j < N → Lo .u64 28 w (two j)
  dis : ∀ j k, j < N → k < N → j ≠ k → Apart (two j).p (two k).p
  loc : ∀ j, j < N → ∀ a, (two j).p = some a → a.block ≠ g2 ∧ (s2 ≤ a.block ∧ a.block < s3)
  gs : s2 ≤ g2 ∧ g2 < s3
theorem K2.drewN {N s2 s3 w6 w g2 i two} (h : K2 N s2 s3 w6 w g2 i two) (q : Nat) : K2 N s2 s3 w6 (w.drewN q) g2 i two := ⟨h.tur.drewN q, h.fam, h.own, h.dis, h.loc, h.gs⟩
theorem K2.alloc {N s2 s3 w6 w g2 i two} (h : K2 N s2 s3 w6 w g2 i two) (ob : Obj) : K2 N s2 s3 w6 (w.alloc ob) g2 i two :=
  ⟨h.tur.alloc ob, (by obtain ⟨M, h1, h2⟩ := h.fam; exact ⟨M, h1.alloc ob, h2⟩), fun j h1 h2 => (h.own j h1 h2).alloc ob, h.dis, h.loc, h.gs⟩
theorem K2.cell {N s2 s3 w6 w g2 i two} (h : K2 N s2 s3 w6 w g2 i two) (hi : i < N) : w.cell? ⟨g2, i, none⟩ = some (.slice (two i).p (two i).n (two i).c) := by
  obtain ⟨M, h1, h2⟩ := h.fam
  rw [h1.cell hi, h2 i (Nat.le_refl _) hi]
theorem K2.frozen {N s2 s3 w6 w g2 i two} (h : K2 N s2 s3 w6 w g2 i two) (j : Nat) : w.frozen? ⟨g2, j, none⟩ = false := by
  obtain ⟨M, h1, h2⟩ := h.fam
  exact h1.frozen j
theorem K2.grow {N s2 s3 w6 w w' g2 i two} (h : K2 N s2 s3 w6 w g2 i two) (hi : i < N) (p' : Option Addr) (n' c' : Nat) (hg : w.grownBy w' (Value.ownBlock (.slice (two i).p (two i).n (two i).c))) :
    K2 N s2 s3 w6 (w'.setCell ⟨g2, i, none⟩ (.slice p' n' c')) g2 (i + 1) two ∧ w'.cell? ⟨g2, i, none⟩ = some (.slice (two i).p (two i).n (two i).c) ∧ w'.frozen? ⟨g2, i, none⟩ = false := by
  obtain ⟨M, h1, h2⟩ := h.fam
  have hrow : ∀ b, Value.ownBlock (.slice (two i).p (two i).n (two i).c) = some b → ∃ a, (two i).p = some a ∧ a.block = b := by
    intro b hb
    cases hp : (two i).p with
    | none => rw [hp] at hb; cases hb
    | some a => rw [hp] at hb; exact ⟨a, rfl, by simpa [Value.ownBlock] using hb⟩
  have hkeep : ∀ k, k < w.heap.size → (∀ a, (two i).p = some a → a.block ≠ k) → w'.heap[k]? = w.heap[k]? := by
    intro k hk hn
    refine hg.block k hk (fun e => ?_)
    obtain ⟨a, ha, hb⟩ := hrow k e.symm
    exact hn a ha hb
  have hfam : Fam 22 w' g2 N M := h1.of (hkeep g2 h1.lt (fun a ha => (h.loc i hi a ha).1))
  have htur : Turned s2 s3 w6 w' := h.tur.grown hg (fun b hb => by
    obtain ⟨a, ha, rfl⟩ := hrow b hb
    exact .inl (h.loc i hi a ha).2)
  refine ⟨⟨htur.set' (.inl h.gs) _, ⟨_, hfam.set i ⟨p', n', c', fun _ => 0⟩, fun j hj hj8 => ?_⟩, fun j hj hj8 => ?_, h.dis, h.loc, h.gs⟩, ?_, hfam.frozen i⟩
  · rw [updL_other _ _ _ _ (by omega)]; exact h2 j (by omega) hj8
  · refine (h.own j (by omega) hj8).of (fun a ha => ?_)
    exact (Below.heap_setCell _ _ _ _ (h.loc j hj8 a ha).1).trans (hkeep _ ((h.own j (by omega) hj8).lt a ha) (fun b hb e => h.dis j i hj8 hi (by omega) a b ha hb e.symm))
  · rw [hfam.cell hi, h2 i (Nat.le_refl _) hi]
end Go.Proofs.YtclopblgdiahiaaGreatDoor
namespace Go.Proofs.YtclopblgdiahiaaGreatDoor
open Go.RowKit

/-- Block g is a row of structs: at the places pos the N lists, elsewhere what O tells. -/
def FamP (e : TypeId) (w : World) (g N : Nat) (pos : Nat → Nat) (O : Nat → Option Value) (L : Nat → Ls) : Prop :=
  ∃ arr : Array Value, w.heap[g]? = some (.cells arr e (0, 0)) ∧ (∀ j, j < N → arr[pos j]? = some (.slice (L j).p (L j).n (L j).c)) ∧ ∀ t, (∀ j, j < N → pos j ≠ t) → arr[t]? = O t
theorem FamP.cell {e w g N pos O L} (h : FamP e w g N pos O L) {j : Nat} (hj : j < N) : w.cell? ⟨g, pos j, none⟩ = some (.slice (L j).p (L j).n (L j).c) := by
  obtain ⟨arr, h1, h2, h3⟩ := h
  simp [World.cell?, h1, h2 j hj]
theorem FamP.other {e w g N pos O L} (h : FamP e w g N pos O L) {t : Nat} (ht : ∀ j, j < N → pos j ≠ t) : w.cell? ⟨g, t, none⟩ = O t := by
  obtain ⟨arr, h1, h2, h3⟩ := h
  simp [World.cell?, h1, h3 t ht]
theorem FamP.frozen {e w g N pos O L} (h : FamP e w g N pos O L) (j : Nat) : w.frozen? ⟨g, j, none⟩ = false := by
  obtain ⟨arr, h1, h2, h3⟩ := h
  simp [World.frozen?, h1]
theorem FamP.lt {e w g N pos O L} (h : FamP e w g N pos O L) : g < w.heap.size := by
  obtain ⟨arr, h1, h2, h3⟩ := h
  exact (Array.getElem?_eq_some_iff.1 h1).1
theorem FamP.of {e w w' g N pos O L} (h : FamP e w g N pos O L) (he : w'.heap[g]? = w.heap[g]?) : FamP e w' g N pos O L := by
  obtain ⟨arr, h1, h2, h3⟩ := h
  exact ⟨arr, he.trans h1, h2, h3⟩
theorem FamP.alloc {e w g N pos O L} (h : FamP e w g N pos O L) (o : Obj) : FamP e (w.alloc o) g N pos O L := h.of (Below.heap_alloc _ _ _ h.lt)
theorem FamP.set {e w g N pos O L} (h : FamP e w g N pos O L) (hp : ∀ i j, i < N → j < N → pos i = pos j → i = j) {i : Nat} (hi : i < N) (l : Ls) : FamP e (w.setCell ⟨g, pos i, none⟩ (.slice l.p l.n l.c)) g N pos O (updL L i l) := by
  obtain ⟨arr, h1, h2, h3⟩ := h
  refine ⟨arr.setIfInBounds (pos i) (.slice l.p l.n l.c), ?_, fun j hj => ?_, fun t ht => ?_⟩
  · simp [World.setCell, Array.getElem?_modify, h1]
  · have hlt : pos i < arr.size := (Array.getElem?_eq_some_iff.1 (h2 i hi)).1
    by_cases hji : j = i
    · subst hji; rw [updL_same]; simp [hlt]
    · rw [Array.getElem?_setIfInBounds, if_neg (fun e => hji (hp i j hi hj e).symm), h2 j hj, updL_other _ _ _ _ hji]
  · rw [Array.getElem?_setIfInBounds, if_neg (ht i hi), h3 t ht]
theorem FamP.congr {e w g N pos O L L'} (h : FamP e w g N pos O L) (he : ∀ j, j < N → (L j).p = (L' j).p ∧ (L j).n = (L' j).n ∧ (L j).c = (L' j).c) : FamP e w g N pos O L' := by
  obtain ⟨arr, h1, h2, h3⟩ := h
  exact ⟨arr, h1, fun j hj => by rw [h2 j hj, (he j hj).1, (he j hj).2.1, (he j hj).2.2], h3⟩

/-- The first round, at list i. -/
structure KP1 (E : TypeId) (pos : Nat → Nat) (O : Nat → Option Value) (N s1 s2 : Nat) (w5 w : World) (g1 i o : Nat) (one L : Nat → Ls) : Prop where
  tur : Turned s1 s2 w5 w
  fam : FamP E w g1 N pos O L
  own : ∀ j, j < N → Lo .u64 28 w (L j)
  old : ∀ j, o ≤ j → j < N → L j = one j
  new : ∀ j, j < i → Sp j (L j)
  dis : ∀ j k, j < N → k < N → j ≠ k → Apart (L j).p (L k).p
  loc : ∀ j, j < N → ∀ a, (L j).p = some a → a.block ≠ g1 ∧ (s1 ≤ a.block ∧ a.block < s2 ∨ w5.heap.size ≤ a.block)
  gs : s1 ≤ g1 ∧ g1 < s2
  inj : ∀ i j, i < N → j < N → pos i = pos j → i = j

theorem KP1.drewN {E pos O N s1 s2 w5 w g1 i o one L} (h : KP1 E pos O N s1 s2 w5 w g1 i o one L) (q : Nat) : KP1 E pos O N s1 s2 w5 (w.drewN q) g1 i o one L := ⟨h.tur.drewN q, h.fam, h.own, h.old, h.new, h.dis, h.loc, h.gs, h.inj⟩
theorem KP1.alloc {E pos O N s1 s2 w5 w g1 i o one L} (h : KP1 E pos O N s1 s2 w5 w g1 i o one L) (ob : Obj) : KP1 E pos O N s1 s2 w5 (w.alloc ob) g1 i o one L := ⟨h.tur.alloc ob, h.fam.alloc ob, fun j hj => (h.own j hj).alloc ob, h.old, h.new, h.dis, h.loc, h.gs, h.inj⟩
theorem KP1.mono {E pos O N s1 s2 w5 w g1 i o one L} (h : KP1 E pos O N s1 s2 w5 w g1 i o one L) : KP1 E pos O N s1 s2 w5 w g1 i (o + 1) one L := ⟨h.tur, h.fam, h.own, fun j hj => h.old j (by omega), h.new, h.dis, h.loc, h.gs, h.inj⟩
theorem KP1.store {E pos O N s1 s2 w5 w g1 i o one L} (h : KP1 E pos O N s1 s2 w5 w g1 i o one L) (hi : i < N) (ho : i < o) {g j : Nat} (hp : (L i).p = some ⟨g, 0, none⟩) (hj : j < (L i).n) (x : Int) :
    KP1 E pos O N s1 s2 w5 (w.setCell ⟨g, j, none⟩ (.int .u64 x)) g1 i o one (updL L i ⟨(L i).p, (L i).n, (L i).c, upd (L i).f j x⟩) := by
  obtain ⟨l1, l2⟩ := h.loc i hi _ hp
  have hL : ∀ k, (updL L i ⟨(L i).p, (L i).n, (L i).c, upd (L i).f j x⟩ k).p = (L k).p ∧ (updL L i ⟨(L i).p, (L i).n, (L i).c, upd (L i).f j x⟩ k).n = (L k).n ∧ (updL L i ⟨(L i).p, (L i).n, (L i).c, upd (L i).f j x⟩ k).c = (L k).c := by
    intro k
    by_cases hk : k = i
    · subst hk; rw [updL_same]; exact ⟨rfl, rfl, rfl⟩
    · rw [updL_other _ _ _ _ hk]; exact ⟨rfl, rfl, rfl⟩
  refine ⟨h.tur.set' (x := ⟨g, j, none⟩) l2 _, (h.fam.of (Below.heap_setCell _ ⟨g, j, none⟩ _ _ (fun e => l1 e.symm))).congr (fun k _ => ⟨(hL k).1.symm, (hL k).2.1.symm, (hL k).2.2.symm⟩), ?_, ?_, ?_, ?_, ?_, h.gs, h.inj⟩
  · intro k hk
    by_cases hki : k = i
    · subst hki
      rw [updL_same]
      have := h.own k hk
      unfold Lo at this ⊢
      rw [hp] at this ⊢
      exact own_set this hj x
    · rw [updL_other _ _ _ _ hki]
      refine (h.own k hk).of (fun a ha => Below.heap_setCell _ _ _ _ ?_)
      exact (show a.block ≠ g from h.dis k i hk hi hki a _ ha hp)
  · intro k hk hk8
    rw [updL_other _ _ _ _ (by omega)]; exact h.old k hk hk8
  · intro k hk
    rw [updL_other _ _ _ _ (by omega)]; exact h.new k hk
  · intro a b ha hb hab
    rw [(hL a).1, (hL b).1]; exact h.dis a b ha hb hab
  · intro k hk a ha
    rw [(hL k).1] at ha; exact h.loc k hk a ha
theorem KP1.grow {E pos O N s1 s2 w5 w w' g1 i one L} (h : KP1 E pos O N s1 s2 w5 w g1 i (i + 1) one L) (hi : i < N) {g n' c' : Nat} {f' : Nat → Int} (hg : w.grownBy w' (Value.ownBlock (.slice (L i).p (L i).n (L i).c)))
    (hown : Own .u64 28 w' 0 (.slice (some ⟨g, 0, none⟩) n' c') n' f') (hw : g = w.heap.size ∨ (L i).p = some ⟨g, 0, none⟩) (hs : Sp i ⟨some ⟨g, 0, none⟩, n', c', f'⟩) :
    KP1 E pos O N s1 s2 w5 (w'.setCell ⟨g1, pos i, none⟩ (.slice (some ⟨g, 0, none⟩) n' c')) g1 (i + 1) (i + 1) one (updL L i ⟨some ⟨g, 0, none⟩, n', c', f'⟩) ∧ FamP E w' g1 N pos O L := by
  have hrow : ∀ b, Value.ownBlock (.slice (L i).p (L i).n (L i).c) = some b → ∃ a, (L i).p = some a ∧ a.block = b := by
    intro b hb
    cases hp : (L i).p with
    | none => rw [hp] at hb; cases hb
    | some a => rw [hp] at hb; exact ⟨a, rfl, by simpa [Value.ownBlock] using hb⟩
  have hkeep : ∀ k, k < w.heap.size → (∀ a, (L i).p = some a → a.block ≠ k) → w'.heap[k]? = w.heap[k]? := by
    intro k hk hn
    refine hg.block k hk (fun e => ?_)
    obtain ⟨a, ha, hb⟩ := hrow k e.symm
    exact hn a ha hb
  have hfam : FamP E w' g1 N pos O L := h.fam.of (hkeep g1 h.fam.lt (fun a ha => (h.loc i hi a ha).1))
  have hgw : w5.heap.size ≤ w.heap.size := h.tur.size
  have hg1 := h.fam.lt
  have hgg : g ≠ g1 ∧ (s1 ≤ g ∧ g < s2 ∨ w5.heap.size ≤ g) := by
    rcases hw with rfl | hw
    · exact ⟨by omega, .inr hgw⟩
    · exact h.loc i hi _ hw
  have htur : Turned s1 s2 w5 w' := h.tur.grown hg (fun b hb => by
    obtain ⟨a, ha, rfl⟩ := hrow b hb
    exact (h.loc i hi a ha).2)
  have hap : ∀ k, k < N → k ≠ i → ∀ a, (L k).p = some a → a.block ≠ g := by
    intro k hk hki a ha
    rcases hw with rfl | hw
    · exact Nat.ne_of_lt ((h.own k hk).lt a ha)
    · exact h.dis k i hk hi hki a _ ha hw
  refine ⟨⟨htur.set' (.inl h.gs) _, hfam.set h.inj hi ⟨some ⟨g, 0, none⟩, n', c', f'⟩, ?_, ?_, ?_, ?_, ?_, h.gs, h.inj⟩, hfam⟩
  · intro k hk
    by_cases hki : k = i
    · subst hki
      rw [updL_same]
      exact Own.of hown (fun a ha => by cases ha; exact Below.heap_setCell _ _ _ _ hgg.1)
    · rw [updL_other _ _ _ _ hki]
      refine (h.own k hk).of (fun a ha => ?_)
      exact (Below.heap_setCell _ _ _ _ (h.loc k hk a ha).1).trans (hkeep _ ((h.own k hk).lt a ha) (fun b hb e => h.dis k i hk hi hki a b ha hb e.symm))
  · intro k hk hk8
    rw [updL_other _ _ _ _ (by omega)]; exact h.old k hk hk8
  · intro k hk
    by_cases hki : k = i
    · subst hki; rw [updL_same]; exact hs
    · rw [updL_other _ _ _ _ hki]; exact h.new k (by omega)
  · intro a b ha hb hab
    by_cases hai : a = i
    · subst hai
      rw [updL_same, updL_other _ _ _ _ (fun e => hab e.symm)]
      intro x y hx hy
      cases hx
      exact fun e => hap b hb (fun e => hab e.symm) y hy e.symm
    · rw [updL_other _ _ _ _ hai]
      by_cases hbi : b = i
      · subst hbi
        rw [updL_same]
        intro x y hx hy
        cases hy
        exact hap a ha hai x hx
      · rw [updL_other _ _ _ _ hbi]; exact h.dis a b ha hb hab
  · intro k hk a ha
    by_cases hki : k = i
    · subst hki
      rw [updL_same] at ha
      cases ha
      exact hgg
    · rw [updL_other _ _ _ _ hki] at ha; exact h.loc k hk a ha

/-- The second round, at list i: what was ahead of it and what is behind it stays. -/
structure KP2 (E : TypeId) (pos : Nat → Nat) (O : Nat → Option Value) (N s2 s3 : Nat) (w6 w : World) (g2 i : Nat) (two : Nat → Ls) : Prop where
  tur : Turned s2 s3 w6 w
  fam : ∃ M, FamP E w g2 N pos O M ∧ ∀ j, i ≤ j → j < N → M j = two j
  own : ∀ j, i ≤ j → j < N → Lo .u64 28 w (two j)
  dis : ∀ j k, j < N → k < N → j ≠ k → Apart (two j).p (two k).p
  loc : ∀ j, j < N → ∀ a, (two j).p = some a → a.block ≠ g2 ∧ (s2 ≤ a.block ∧ a.block < s3)
  gs : s2 ≤ g2 ∧ g2 < s3
  inj : ∀ i j, i < N → j < N → pos i = pos j → i = j
theorem KP2.drewN {E pos O N s2 s3 w6 w g2 i two} (h : KP2 E pos O N s2 s3 w6 w g2 i two) (q : Nat) : KP2 E pos O N s2 s3 w6 (w.drewN q) g2 i two := ⟨h.tur.drewN q, h.fam, h.own, h.dis, h.loc, h.gs, h.inj⟩
theorem KP2.alloc {E pos O N s2 s3 w6 w g2 i two} (h : KP2 E pos O N s2 s3 w6 w g2 i two) (ob : Obj) : KP2 E pos O N s2 s3 w6 (w.alloc ob) g2 i two :=
  ⟨h.tur.alloc ob, (by obtain ⟨M, h1, h2⟩ := h.fam; exact ⟨M, h1.alloc ob, h2⟩), fun j h1 h2 => (h.own j h1 h2).alloc ob, h.dis, h.loc, h.gs, h.inj⟩
theorem KP2.cell {E pos O N s2 s3 w6 w g2 i two} (h : KP2 E pos O N s2 s3 w6 w g2 i two) (hi : i < N) : w.cell? ⟨g2, pos i, none⟩ = some (.slice (two i).p (two i).n (two i).c) := by
  obtain ⟨M, h1, h2⟩ := h.fam
  rw [h1.cell hi, h2 i (Nat.le_refl _) hi]
theorem KP2.frozen {E pos O N s2 s3 w6 w g2 i two} (h : KP2 E pos O N s2 s3 w6 w g2 i two) (j : Nat) : w.frozen? ⟨g2, j, none⟩ = false := by
  obtain ⟨M, h1, h2⟩ := h.fam
  exact h1.frozen j
theorem KP2.grow {E pos O N s2 s3 w6 w w' g2 i two} (h : KP2 E pos O N s2 s3 w6 w g2 i two) (hi : i < N) (p' : Option Addr) (n' c' : Nat) (hg : w.grownBy w' (Value.ownBlock (.slice (two i).p (two i).n (two i).c))) :
    KP2 E pos O N s2 s3 w6 (w'.setCell ⟨g2, pos i, none⟩ (.slice p' n' c')) g2 (i + 1) two ∧ w'.cell? ⟨g2, pos i, none⟩ = some (.slice (two i).p (two i).n (two i).c) ∧ w'.frozen? ⟨g2, pos i, none⟩ = false := by
  obtain ⟨M, h1, h2⟩ := h.fam
  have hrow : ∀ b, Value.ownBlock (.slice (two i).p (two i).n (two i).c) = some b → ∃ a, (two i).p = some a ∧ a.block = b := by
    intro b hb
    cases hp : (two i).p with
    | none => rw [hp] at hb; cases hb
    | some a => rw [hp] at hb; exact ⟨a, rfl, by simpa [Value.ownBlock] using hb⟩
  have hkeep : ∀ k, k < w.heap.size → (∀ a, (two i).p = some a → a.block ≠ k) → w'.heap[k]? = w.heap[k]? := by
    intro k hk hn
    refine hg.block k hk (fun e => ?_)
    obtain ⟨a, ha, hb⟩ := hrow k e.symm
    exact hn a ha hb
  have hfam : FamP E w' g2 N pos O M := h1.of (hkeep g2 h1.lt (fun a ha => (h.loc i hi a ha).1))
  have htur : Turned s2 s3 w6 w' := h.tur.grown hg (fun b hb => by
    obtain ⟨a, ha, rfl⟩ := hrow b hb
    exact .inl (h.loc i hi a ha).2)
  refine ⟨⟨htur.set' (.inl h.gs) _, ⟨_, hfam.set h.inj hi ⟨p', n', c', fun _ => 0⟩, fun j hj hj8 => ?_⟩, fun j hj hj8 => ?_, h.dis, h.loc, h.gs, h.inj⟩, ?_, hfam.frozen (pos i)⟩
  · rw [updL_other _ _ _ _ (by omega)]; exact h2 j (by omega) hj8
  · refine (h.own j (by omega) hj8).of (fun a ha => ?_)
    exact (Below.heap_setCell _ _ _ _ (h.loc j hj8 a ha).1).trans (hkeep _ ((h.own j (by omega) hj8).lt a ha) (fun b hb e => h.dis j i hj8 hi (by omega) a b ha hb e.symm))
  · rw [hfam.cell hi, h2 i (Nat.le_refl _) hi]
end Go.Proofs.YtclopblgdiahiaaGreatDoor
namespace Go.Proofs.YtclopblgdiahiaaGreatDoor
open Go.RowKit

set_option maxHeartbeats 800000 in
/-- addWord: the number in the first n limbs from o on grows by w0; c goes over. -/
theorem addWord_g (g o n cap N : Nat) (f : Nat → Int) (w0 : Int) (w : World) (hb : Blk .u64 28 w g N f) (hf : Lm f N) (ho : o + n ≤ N) (hm : N ≤ 140737488355328) (h0 : 0 ≤ w0) (h1 : w0 < 18446744073709551616) :
    Calls Tryz.prog 157 #[.slice (some ⟨g, o, none⟩) n cap, .int .u64 w0] w fun e w' => e = .returned (.tuple #[]) ∧ Only g w w' ∧
      ∃ f' c, Blk .u64 28 w' g N f' ∧ Lm f' N ∧ (∀ j, j < o ∨ o + n ≤ j → f' j = f j) ∧ 0 ≤ c ∧ vf (sh f' o) n + c * pw n = vf (sh f o) n + w0 := by
  go_enter Tryz.func157, Tryz.ntmps157
  go_wp2
  go_loopw [1, 7] (fun c t wr => ∃ (k : Nat) (cc : Int) (f' : Nat → Int), k ≤ n ∧ t = .int .i64 k ∧ c = .int .u64 cc ∧ 0 ≤ cc ∧ cc < 18446744073709551616 ∧ Only g w wr ∧ Blk .u64 28 wr g N f' ∧ Hid (Lm f' N) ∧ Hid (∀ j, j < o ∨ o + k ≤ j → f' j = f j) ∧
      Hid (vf (sh f' o) k + cc * pw k = vf (sh f o) k + vf (fun _ => 0) k + w0)) (fun _ t _ => n - (intOf t).toNat)
  case atStart => exact ⟨0, w0, f, by omega, rfl, rfl, h0, h1, Only.refl _ _, hb, hf, fun _ _ => rfl, by simp [Hid, vf, pw]⟩
  case round =>
    obtain ⟨k, cc, f', hk, rfl, rfl, c0, c1, hon, hbl, HL, HE, HV⟩ := hrel
    have z0 : ∀ i, vf (fun _ => 0) i = 0 := fun i => vf_zero (fun _ _ => rfl)
    have Z0 := hid z0
    clear z0
    by_cases hlt : k < n
    · by_cases hc : cc = 0
      · subst hc
        go_wp2
        refine bodyPost_ret (v := .tuple #[]) (results_none rfl _ _ _) rfl ⟨rfl, hon, f', 0, hbl, HL.out, fun j hj => HE.out j (by omega), by omega, ?_⟩
        have hv := HV.out
        obtain ⟨d, rfl⟩ := Nat.exists_eq_add_of_le (show k ≤ n by omega)
        rw [vf_split, vf_split (sh f o), sh_sh, sh_sh, vf_congr (f := sh f' (o + k)) (g := sh f (o + k)) (fun j hj => HE.out _ (by omega))]
        rw [Z0.out] at hv
        omega
      · have hc1 : (cc == 0) = false := by simp [hc]
        obtain ⟨x, hx⟩ : ∃ x, f' (o + k) = x := ⟨_, rfl⟩
        have hcell : wr.cell? ⟨g, o + k, none⟩ = some (.int .u64 x) := by rw [← hx]; exact hbl.cell (by omega)
        have hfz := hbl.frozen (o + k)
        have hx01 := HL.out (o + k) (by omega)
        rw [hx] at hx01
        obtain ⟨x0, x1⟩ := hx01
        have HX := hid hx
        clear hx
        go_wp2_with (simp only [add64_0 x cc x0 c0])
        go_roundw
        case rel =>
          refine ⟨k + 1, _, upd f' (o + k) ((x + cc) % 18446744073709551616), by omega, by go_num, rfl, by omega, by omega, hon.setCell _ _ _, hbl.set _ _, HL.out.upd (by omega), ?_, ?_⟩
          · intro j hj
            rw [upd_other _ _ _ _ (by omega)]
            exact HE.out j (by omega)
          · have := carry_step (y := 0) HV.out (HE.out _ (by omega)) rfl
            rw [HX.out] at this
            simpa [Hid] using this
        case measure => simp [intOf]; omega
    · have hkn : k = n := by omega
      subst hkn
      go_wp2
      refine bodyPost_end (v := .tuple #[]) (results_none rfl _ _ _) rfl ⟨rfl, hon, f', cc, hbl, HL.out, HE.out, c0, ?_⟩
      have hv := HV.out
      rw [Z0.out] at hv
      omega

set_option maxHeartbeats 1000000 in
/-- addTo: the number in the first n limbs from o on grows by the number b; c goes over. -/
theorem addTo_g (g o n cap N : Nat) (f : Nat → Int) (bo : Option Addr) (m cb : Nat) (h : Nat → Int) (w : World) (hb : Blk .u64 28 w g N f) (hf : Lm f N) (ho : o + n ≤ N) (hm : N ≤ 140737488355328)
    (hr : Rd .u64 w bo m h) (hh : Lm h m) (hoff : 0 < m → Off bo g) (hmn : m < n) (hcap : n ≤ cap) (hcm : cap ≤ 140737488355328) :
    Calls Tryz.prog 136 #[.slice (some ⟨g, o, none⟩) n cap, .slice bo m cb] w fun e w' => e = .returned (.tuple #[]) ∧ Only g w w' ∧
      ∃ f' c, Blk .u64 28 w' g N f' ∧ Lm f' N ∧ (∀ j, j < o ∨ o + n ≤ j → f' j = f j) ∧ 0 ≤ c ∧ vf (sh f' o) n + c * pw n = vf (sh f o) n + vf h m := by
  have HH := (show Hid (Lm h m) from hh)
  have HRd := (show Hid (Rd .u64 w bo m h) from hr)
  clear hh hr
  go_enter Tryz.func136, Tryz.ntmps136
  go_wp2
  go_loopw [4, 8] (fun c t wr => ∃ (k : Nat) (cc : Int) (f' : Nat → Int), k ≤ m ∧ t = .int .i64 k ∧ c = .int .u64 cc ∧ 0 ≤ cc ∧ cc ≤ 1 ∧ Only g w wr ∧ Blk .u64 28 wr g N f' ∧ Hid (Lm f' N) ∧ Hid (∀ j, j < o ∨ o + k ≤ j → f' j = f j) ∧
      Hid (vf (sh f' o) k + cc * pw k = vf (sh f o) k + vf h k + 0)) (fun _ t _ => m - (intOf t).toNat)
  case atStart => exact ⟨0, 0, f, by omega, rfl, rfl, by omega, by omega, Only.refl _ _, hb, hf, fun _ _ => rfl, by simp [Hid, vf, pw]⟩
  case round =>
    obtain ⟨k, cc, f', hk, rfl, rfl, c0, c1, hon, hbl, HL, HE, HV⟩ := hrel
    by_cases hlt : k < m
    · have hr := HRd.out
      obtain ⟨b, ob, rfl⟩ := hr.at (by omega)
      obtain ⟨x, hx⟩ : ∃ x, f' (o + k) = x := ⟨_, rfl⟩
      obtain ⟨y, hy⟩ : ∃ y, h k = y := ⟨_, rfl⟩
      have hcell : wr.cell? ⟨g, o + k, none⟩ = some (.int .u64 x) := by rw [← hx]; exact hbl.cell (by omega)
      have hcelb : wr.cell? ⟨b, ob + k, none⟩ = some (.int .u64 y) := by rw [← hy]; exact (hr.only hon (hoff (by omega))).cell hlt
      have hfz := hbl.frozen (o + k)
      have hx01 := HL.out (o + k) (by omega)
      have hy01 := HH.out k hlt
      rw [hx] at hx01
      rw [hy] at hy01
      obtain ⟨x0, x1⟩ := hx01
      obtain ⟨y0, y1⟩ := hy01
      have HX := hid hx
      have HY := hid hy
      clear hx hy hr
      have hadd := fun w => add64 x y cc x0 y0 c0 c1 w
      go_wp2
      go_region
      all_goals
        go_wp2
        go_roundw
        case rel =>
          refine ⟨k + 1, _, upd f' (o + k) ((x + y + cc) % 18446744073709551616), by omega, by go_num, rfl, by omega, by omega, ?_, ?_, HL.out.upd (by omega), ?_, ?_⟩
          · exact (hon.setCell _ _ _).drew
          · exact (hbl.set _ _).drew
          · intro j hj
            rw [upd_other _ _ _ _ (by omega)]
            exact HE.out j (by omega)
          · have := carry_step (y := y) HV.out (HE.out _ (by omega)) HY.out
            rw [HX.out] at this
            exact this
        case measure => simp [intOf]; omega
    · have hkm : k = m := by omega
      subst hkm
      obtain ⟨d, rfl⟩ := Nat.exists_eq_add_of_le (Nat.le_of_lt hmn)
      have HS := hid (show ∀ j, j < d → sh f' (o + k) j = sh f (o + k) j from fun j hj => HE.out _ (by omega))
      have hne : ¬ (k = cap) := by omega
      go_wp2_with fail
      refine (addWord_g g (o + k) d (cap - k) N f' cc wr hbl HL.out (by omega) hm c0 (by omega)).mono ?_
      rintro e w' ⟨rfl, hon2, f2, c2, hb2, hl2, he2, hc2, hv2⟩
      have HV2 := hid hv2
      clear hv2
      go_wp2
      refine bodyPost_end (v := .tuple #[]) (results_none rfl _ _ _) rfl ⟨rfl, hon.trans hon2, f2, c2, hb2, hl2, fun j hj => (he2 j (by omega)).trans (HE.out j (by omega)), hc2, ?_⟩
      have hv := HV.out
      have hv2 := HV2.out
      rw [vf_split, vf_split (sh f o), sh_sh, sh_sh, pw_add, vf_congr (f := sh f2 o) (g := sh f' o) (n := k) (fun j hj => he2 _ (by omega))]
      rw [vf_congr HS.out] at hv2
      have e1 : (vf (sh f2 (o + k)) d + c2 * pw d) * pw k = (vf (sh f (o + k)) d + cc) * pw k := by rw [hv2]
      rw [Int.add_mul, Int.add_mul, Int.mul_assoc c2, Int.mul_comm (pw d)] at e1
      omega

/-- One limb of a product taken. -/
theorem mulsub_step {f f' G : Nat → Int} {o k : Nat} {ov wd x y hi l d b : Int} (HV : vf (sh f' o) k + vf G k * wd = vf (sh f o) k + ov * pw k) (hE : f' (o + k) = f (o + k)) (hx : f' (o + k) = x) (hy : G k = y) (h1 : y * wd + ov = hi * 18446744073709551616 + l) (h2 : d = x - l + b * 18446744073709551616) :
    vf (sh (upd f' (o + k) d) o) (k + 1) + vf G (k + 1) * wd = vf (sh f o) (k + 1) + (hi + b) * pw (k + 1) := by
  have e1 : vf (sh (upd f' (o + k) d) o) k = vf (sh f' o) k := vf_congr (fun j hj => upd_other _ _ _ _ (by omega))
  rw [vf_succ, vf_succ, vf_succ, e1, pw_succ, sh_at, sh_at, upd_same, hy, ← hE, hx, h2]
  grind

set_option maxHeartbeats 1000000 in
/-- mulSubFrom: a * wd is taken from the first limbs of d; what was borrowed is answered. -/
theorem mulSubFrom_c (g o n cap N : Nat) (f : Nat → Int) (bo : Option Addr) (m cb : Nat) (h : Nat → Int) (wd : Int) (w : World) (hb : Blk .u64 28 w g N f) (hf : Lm f N) (ho : o + n ≤ N)
    (hr : Rd .u64 w bo m h) (hh : Lm h m) (hoff : 0 < m → Off bo g) (hmn : m ≤ n) (hcap : n ≤ cap) (hcm : cap ≤ 140737488355328) (d0 : 0 ≤ wd) (d1 : wd < 18446744073709551616) :
    Calls Tryz.prog 181 #[.slice (some ⟨g, o, none⟩) n cap, .slice bo m cb, .int .u64 wd] w fun e w' => ∃ ov, e = .returned (.int .u64 ov) ∧ 0 ≤ ov ∧ ov < 18446744073709551616 ∧ Only g w w' ∧
      ∃ f', Blk .u64 28 w' g N f' ∧ Lm f' N ∧ (∀ j, j < o ∨ o + m ≤ j → f' j = f j) ∧ vf (sh f' o) m + vf h m * wd = vf (sh f o) m + ov * pw m := by
  have HH := hid hh
  have HRd := hid hr
  clear hh hr
  go_enter Tryz.func181, Tryz.ntmps181
  go_wp2
  go_loopw [7, 18] (fun c t wr => ∃ (k : Nat) (ov : Int) (f' : Nat → Int), k ≤ m ∧ t = .int .i64 k ∧ c = .int .u64 ov ∧ 0 ≤ ov ∧ ov < 18446744073709551616 ∧ Only g w wr ∧ Blk .u64 28 wr g N f' ∧ Hid (Lm f' N) ∧ Hid (∀ j, j < o ∨ o + k ≤ j → f' j = f j) ∧
      Hid (vf (sh f' o) k + vf h k * wd = vf (sh f o) k + ov * pw k)) (fun _ t _ => m - (intOf t).toNat)
  case atStart => exact ⟨0, 0, f, by omega, rfl, rfl, by omega, by omega, Only.refl _ _, hb, hf, fun _ _ => rfl, by simp [Hid, vf, pw]⟩
  case round =>
    obtain ⟨k, ov, f', hk, rfl, rfl, v0, v1, hon, hbl, HL, HE, HV⟩ := hrel
    by_cases hlt : k < m
    · have hr := HRd.out
      obtain ⟨b, ob, rfl⟩ := hr.at (by omega)
      obtain ⟨x, hx⟩ : ∃ x, f' (o + k) = x := ⟨_, rfl⟩
      obtain ⟨y, hy⟩ : ∃ y, h k = y := ⟨_, rfl⟩
      have hcell : wr.cell? ⟨g, o + k, none⟩ = some (.int .u64 x) := by rw [← hx]; exact hbl.cell (by omega)
      have hcelb : wr.cell? ⟨b, ob + k, none⟩ = some (.int .u64 y) := by rw [← hy]; exact (hr.only hon (hoff (by omega))).cell hlt
      have hfz := hbl.frozen (o + k)
      have hx01 := HL.out (o + k) (by omega)
      have hy01 := HH.out k hlt
      rw [hx] at hx01
      rw [hy] at hy01
      obtain ⟨x0, x1⟩ := hx01
      obtain ⟨y0, y1⟩ := hy01
      have HX := hid hx
      have HY := hid hy
      clear hx hy hr
      have c1 := fun w => mulAdd_c y wd ov w y0 y1 d0 d1 v0 v1
      have hbd := prod_bounds y0 y1 d0 d1
      obtain ⟨hi, hhi⟩ : ∃ hi, (y * wd + ov) / 18446744073709551616 = hi := ⟨_, rfl⟩
      obtain ⟨l, hl⟩ : ∃ l, (y * wd + ov) % 18446744073709551616 = l := ⟨_, rfl⟩
      rw [hhi, hl] at c1
      have hP : y * wd + ov = hi * 18446744073709551616 + l := by omega
      have i0 : 0 ≤ hi := by omega
      have i1 : hi + bor x l < 18446744073709551616 := by have := bor_01 x l; unfold bor; split <;> omega
      have l0 : 0 ≤ l := by omega
      have l1 : l < 18446744073709551616 := by omega
      obtain ⟨bb, hbb⟩ : ∃ bb, bor x l = bb := ⟨_, rfl⟩
      have bb0 : 0 ≤ bb := by rw [← hbb]; exact (bor_01 _ _).1
      have bb1 : bb ≤ 1 := by rw [← hbb]; exact (bor_01 _ _).2
      have hd : (x - l) % 18446744073709551616 = x - l + bb * 18446744073709551616 := by
        rw [← hbb]; unfold bor; split <;> omega
      have hsub := fun w => sub64_0 x l x0 l0 l1 w
      simp only [hbb] at hsub
      obtain ⟨dd, hdd⟩ : ∃ dd, (x - l) % 18446744073709551616 = dd := ⟨_, rfl⟩
      rw [hdd] at hd
      rw [hbb] at i1
      simp only [hdd] at hsub
      have dd0 : 0 ≤ dd ∧ dd < 18446744073709551616 := by omega
      have C1 := hid c1; have HP := hid hP; have HD := hid hd
      clear c1 hP hbd hhi hl hd hdd hbb
      go_wp2_with fail
      refine (C1.out _).mono ?_
      rintro e wx ⟨rfl, rfl⟩
      go_wp2
      go_roundw
      case rel =>
        refine ⟨k + 1, hi + bb, upd f' (o + k) dd, by omega, by go_num, rfl, by omega, by omega, hon.setCell _ _ _, hbl.set _ _, HL.out.upd dd0, ?_, ?_⟩
        · intro j hj
          rw [upd_other _ _ _ _ (by omega)]
          exact HE.out j (by omega)
        · exact mulsub_step HV.out (HE.out _ (by omega)) HX.out HY.out HP.out HD.out
      case measure => simp [intOf]; omega
    · have hkm : k = m := by omega
      subst hkm
      go_wp2
      go_ret
      exact ⟨ov, rfl, v0, v1, hon, f', hbl, HL.out, HE.out, HV.out⟩
end Go.Proofs.YtclopblgdiahiaaGreatDoor

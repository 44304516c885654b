/-
  Walks of package nat's products of long numbers: half, addPieceProducts.
-/
import Derived.Test.YtjjbmioicliipabDoorM2
import Derived.BigQuiet
namespace Go.Proofs.YtjjbmioicliipabDoor
open Go.RowKit

/-- addProduct at lists of n and m limbs, of these capacities. -/
def AddProdC (n m ca cb : Nat) : Prop := ∀ (g o cap N : Nat) (f : Nat → Int) (ao bo : Option Addr) (D : Nat) (fa fb : Nat → Int) (w : World), Blk .u64 32 w g N f → Lm f N → o + D ≤ N → n + m ≤ D → N ≤ 140737488355328 →
    Rd .u64 w ao n fa → Rd .u64 w bo m fb → Lm fa n → Lm fb m → (0 < n → Off ao g) → (0 < m → Off bo g) → D ≤ cap → cap ≤ 140737488355328 → vf (sh f o) D + vf fa n * vf fb m < pw D →
    Calls Tryd.prog 50 #[.slice (some ⟨g, o, none⟩) D cap, .slice ao n ca, .slice bo m cb] w fun e w' => e = .returned (.tuple #[]) ∧ Only g w w' ∧
      ∃ f', Blk .u64 32 w' g N f' ∧ Lm f' N ∧ (∀ j, j < o ∨ o + D ≤ j → f' j = f j) ∧ vf (sh f' o) D = vf (sh f o) D + vf fa n * vf fb m
theorem AddProd.at {n m : Nat} (h : AddProd n m) (ca cb : Nat) : AddProdC n m ca cb := fun g o cap N f ao bo D fa fb w => h g o cap N f ao bo ca cb D fa fb w

theorem half_c (n c : Nat) (z : Int) (w : World) (hn : n ≤ 140737488355328) (hz : z = n) (hc : c = (n + 1) / 2) : Calls Tryd.prog 70 #[.int .i64 z] w fun e w' => e = .returned (.int .i64 c) ∧ w' = w := by
  subst hz
  have h1 : Int.tdiv ((n : Int) + 1) 2 = (c : Int) := by rw [Int.tdiv_eq_ediv_of_nonneg (by omega)]; omega
  have h2 : ((n : Int) + 1) / 2 = (c : Int) := by omega
  clear hc
  go_enter Tryd.func70, Tryd.ntmps70
  go_wp2
  go_ret
  exact ⟨rfl, rfl⟩

theorem only_drewN' {g : Nat} {a w : World} (h : Only g a w) (q : Nat) : Only g a (w.drewN q) := ⟨h.os, h.tape, h.output, h.size, h.block⟩

/-- A piece's product, added at its place. -/
theorem piece_val {f' F : Nat → Int} {o i D : Nat} {X V0 V : Int} (hi : i ≤ D) (h0 : vf (sh F o) D = V0) (he : ∀ j, j < o + i ∨ o + i + (D - i) ≤ j → f' j = F j) (hv : vf (sh f' (o + i)) (D - i) = vf (sh F (o + i)) (D - i) + X) (hV : V = V0 + X * pw i) : vf (sh f' o) D = V := by
  obtain ⟨d, rfl⟩ := Nat.exists_eq_add_of_le hi
  rw [Nat.add_sub_cancel_left] at hv he
  rw [vf_split, sh_sh] at h0 ⊢
  rw [hv, vf_congr (f := sh f' o) (g := sh F o) (n := i) (fun j hj => he _ (by omega)), hV, ← h0]
  grind
theorem piece_room {F : Nat → Int} {o i D N : Nat} {X V0 : Int} (hi : i ≤ D) (hF : Lm F N) (hN : o + D ≤ N) (h0 : vf (sh F o) D = V0) (hr : V0 + X * pw i < pw D) : vf (sh F (o + i)) (D - i) + X < pw (D - i) := by
  obtain ⟨d, rfl⟩ := Nat.exists_eq_add_of_le hi
  rw [Nat.add_sub_cancel_left]
  have a1 := vf_nonneg (hF.sh (o := o) (m := i) (by omega))
  rw [vf_split, sh_sh] at h0
  rw [pw_add] at hr
  have hp := pw_pos i
  have : (vf (sh F (o + i)) d + X) * pw i < pw d * pw i := by rw [Int.add_mul, Int.mul_comm (pw d)]; omega
  exact Int.lt_of_mul_lt_mul_right this (Int.le_of_lt hp)
theorem vf_two (fa : Nat → Int) (i n V : _) : vf fa (i + n) * V = vf fa i * V + vf (sh fa i) n * V * pw i := by rw [vf_split]; grind

set_option maxRecDepth 100000 in
set_option maxHeartbeats 4000000 in
/-- addPieceProducts: by pieces of b's length. -/
theorem piece_c (g o cap N : Nat) (f : Nat → Int) (b ob : Nat) (bo : Option Addr) (n m ca cb D : Nat) (fa fb : Nat → Int) (w : World) (hb : Blk .u64 32 w g N f) (hf : Lm f N) (ho : o + D ≤ N) (hD : n + m ≤ D) (hN : N ≤ 140737488355328)
    (hra : Rd .u64 w (some ⟨b, ob, none⟩) n fa) (hrb : Rd .u64 w bo m fb) (ha : Lm fa n) (hbb : Lm fb m) (hoa : b ≠ g) (hob : 0 < m → Off bo g) (hcap : D ≤ cap) (hcm : cap ≤ 140737488355328) (hca : n ≤ ca) (hcam : ca ≤ 9223372036854775807) (hm0 : 0 < m)
    (hih : ∀ k c, k ≤ m → k ≤ c → c ≤ ca → AddProdC k m c cb) (hroom : vf (sh f o) D + vf fa n * vf fb m < pw D) :
    Calls Tryd.prog 71 #[.slice (some ⟨g, o, none⟩) D cap, .slice (some ⟨b, ob, none⟩) n ca, .slice bo m cb] w fun e w' => e = .returned (.tuple #[]) ∧ Only g w w' ∧
      ∃ f', Blk .u64 32 w' g N f' ∧ Lm f' N ∧ (∀ j, j < o ∨ o + D ≤ j → f' j = f j) ∧ vf (sh f' o) D = vf (sh f o) D + vf fa n * vf fb m := by
  have HRm := hid hroom; have HB := hid hb; have HF := hid hf; have HRA := hid hra; have HRB := hid hrb; have HA := hid ha; have HBB := hid hbb; have HIH := hid hih; have HOB := hid hob
  clear hroom hb hf hra hrb ha hbb hih hob
  go_enter Tryd.func71, Tryd.ntmps71
  go_wp2
  go_loopw [0, 1] (fun d a wr => ∃ (i : Nat) (f' : Nat → Int) (x : Option Addr) (c : Nat), i ≤ n ∧ d = .slice (some ⟨g, o + i, none⟩) (D - i) (cap - i) ∧ a = .slice x (n - i) c ∧ (i < n → x = some ⟨b, ob + i, none⟩ ∧ c = ca - i) ∧ Only g w wr ∧ Hid (Blk .u64 32 wr g N f') ∧ Hid (Lm f' N) ∧ Hid (∀ j, j < o ∨ o + D ≤ j → f' j = f j) ∧ Hid (vf (sh f' o) D = vf (sh f o) D + vf fa i * vf fb m)) (fun _ a _ => match a with | .slice _ k _ => k | _ => 0)
  case atStart => exact ⟨0, f, some ⟨b, ob, none⟩, ca, by omega, rfl, rfl, fun _ => ⟨rfl, rfl⟩, Only.refl _ _, HB.out, HF.out, fun _ _ => rfl, by simp [Hid, vf]⟩
  case round =>
    obtain ⟨i, f', x, c, hi, rfl, rfl, hx, hon, HBl, HL, HE, HV⟩ := hrel
    by_cases hlt : i < n
    · obtain ⟨rfl, rfl⟩ := hx hlt
      have hbl := HBl.out
      by_cases hsm : m < n - i
      · have hr1 := piece_room (o := o) (i := i) (D := D) (N := N) (X := vf (sh fa i) m * vf fb m) (by omega) HL.out ho HV.out (by
          have e1 := vf_two fa i m (vf fb m)
          have e2 : vf fa (i + m) * vf fb m ≤ vf fa n * vf fb m := Int.mul_le_mul_of_nonneg_right (vf_le HA.out (by omega)) (vf_nonneg HBB.out)
          have := HRm.out; omega)
        have C := hid (HIH.out m (ca - i) (Nat.le_refl _) (by omega) (by omega) g (o + i) (cap - i) N f' (some ⟨b, ob + i, none⟩) bo (D - i) (sh fa i) fb wr hbl HL.out (by omega) (by omega) hN ((HRA.out.only hon (off_some hoa)).drop (by omega)) (HRB.out.only hon (HOB.out hm0)) (HA.out.sh (by omega)) HBB.out (fun _ => off_some hoa) HOB.out (by omega) (by omega) hr1)
        clear hr1 hbl hx
        have m1 : (m : Int) < ((n - i : Nat) : Int) := by omega
        have m2 : ¬ (m = ca - i) := by omega
        have m3 : ¬ (m = cap - i) := by omega
        have hmin : min (m : Int) ((n - i : Nat) : Int) = (m : Int) := by omega
        go_wp2_with fail
        refine C.out.mono ?_
        rintro e w2 ⟨rfl, hon2, f2, hb2, hl2, he2, hv2⟩
        have HB2 := hid hb2; have HL2 := hid hl2; have HE2 := hid he2; have HV2 := hid hv2
        clear hb2 hl2 he2 hv2 C
        have q1 : (m : Int) ≤ ((n - i : Nat) : Int) := by omega
        have q2 : (m : Int) ≤ ((D - i : Nat) : Int) := by omega
        have q3 : m ≤ n - i := by omega
        have q4 : m ≤ D - i := by omega
        have m4 : ¬ (ca - i = m) := by omega
        have m5 : ¬ (cap - i = m) := by omega
        go_wp2
        go_quiet (fail)
        go_wp2
        go_roundw
        case rel =>
          refine ⟨i + m, f2, _, _, by omega, (by rw [← Nat.add_assoc, ← Nat.sub_sub, ← Nat.sub_sub]), (by rw [← Nat.sub_sub]), fun _ => ⟨by rw [← Nat.add_assoc], by rw [Nat.sub_sub]⟩, only_drewN' (hon.trans hon2) _, HB2.out, HL2.out, fun j hj => (HE2.out j (by omega)).trans (HE.out j hj), ?_⟩
          have := piece_val (by omega) HV.out HE2.out HV2.out rfl
          show _ = _
          rw [this, vf_two]; omega
        case measure => show n - i - m < n - i; omega
      · have hr1 := piece_room (o := o) (i := i) (D := D) (N := N) (X := vf (sh fa i) (n - i) * vf fb m) (by omega) HL.out ho HV.out (by
          have e1 := vf_two fa i (n - i) (vf fb m)
          have e2 : vf fa (i + (n - i)) * vf fb m ≤ vf fa n * vf fb m := Int.mul_le_mul_of_nonneg_right (vf_le HA.out (by omega)) (vf_nonneg HBB.out)
          have := HRm.out; omega)
        have C := hid (HIH.out (n - i) (ca - i) (by omega) (by omega) (by omega) g (o + i) (cap - i) N f' (some ⟨b, ob + i, none⟩) bo (D - i) (sh fa i) fb wr hbl HL.out (by omega) (by omega) hN ((HRA.out.only hon (off_some hoa)).drop (by omega)) (HRB.out.only hon (HOB.out hm0)) (HA.out.sh (by omega)) HBB.out (fun _ => off_some hoa) HOB.out (by omega) (by omega) hr1)
        clear hr1 hbl hx
        obtain ⟨r, hr⟩ : ∃ r, n - i = r := ⟨_, rfl⟩
        have HRe := hid hr
        rw [hr] at C ⊢
        have hr0 : 0 < r := by omega
        have hrca : r ≤ ca - i := by omega
        have hrD : r < D - i := by omega
        have hrcap : r < cap - i := by omega
        have hrm : r ≤ m := by omega
        clear hr
        have hmin : min (m : Int) (r : Int) = (r : Int) := by omega
        go_wp2_with fail
        refine C.out.mono ?_
        rintro e w2 ⟨rfl, hon2, f2, hb2, hl2, he2, hv2⟩
        have HB2 := hid hb2; have HL2 := hid hl2; have HE2 := hid he2; have HV2 := hid hv2
        clear hb2 hl2 he2 hv2 C
        have q2 : (r : Int) ≤ ((D - i : Nat) : Int) := by omega
        have q4 : r ≤ D - i := by omega
        have m3 : ¬ (r = cap - i) := by omega
        have m5 : ¬ (cap - i = r) := by omega
        have q5 : (r : Int) ≤ (r : Int) := by omega
        by_cases hc : r = ca - i
        · rw [← hc]
          clear hc hrca
          go_wp2
          go_quiet (fail)
          go_wp2
          go_roundw
          case rel =>
            have hre := HRe.out
            refine ⟨n, f2, _, _, by omega, (by rw [show n = i + r by omega, ← Nat.add_assoc, ← Nat.sub_sub, ← Nat.sub_sub]), (by rw [Nat.sub_self]), fun h => by omega, only_drewN' (hon.trans hon2) _, HB2.out, HL2.out, fun j hj => (HE2.out j (by omega)).trans (HE.out j hj), ?_⟩
            have := piece_val (by omega) HV.out HE2.out HV2.out rfl
            show _ = _
            rw [this, show n = i + r by omega, vf_two]; omega
          case measure => show _ < _; simp; omega
        · have hc2 : ¬ (ca - i = r) := fun h => hc h.symm
          go_wp2
          go_quiet (fail)
          go_wp2
          go_roundw
          case rel =>
            have hre := HRe.out
            refine ⟨n, f2, _, _, by omega, (by rw [show n = i + r by omega, ← Nat.add_assoc, ← Nat.sub_sub, ← Nat.sub_sub]), (by rw [Nat.sub_self]), fun h => by omega, only_drewN' (hon.trans hon2) _, HB2.out, HL2.out, fun j hj => (HE2.out j (by omega)).trans (HE.out j hj), ?_⟩
            have := piece_val (by omega) HV.out HE2.out HV2.out rfl
            show _ = _
            rw [this, show n = i + r by omega, vf_two]; omega
          case measure => show _ < _; simp; omega
    · have hin : i = n := by omega
      subst hin
      go_wp2
      refine bodyPost_end (v := .tuple #[]) (results_none rfl _ _ _) rfl ⟨rfl, hon, f', HBl.out, HL.out, HE.out, HV.out⟩
end Go.Proofs.YtjjbmioicliipabDoor

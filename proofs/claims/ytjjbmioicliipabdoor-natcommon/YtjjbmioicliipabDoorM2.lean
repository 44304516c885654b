/-
  Walks of package nat's products of a number and one of less than 40 limbs: addProduct, product, mul.
-/
import Derived.Test.YtjjbmioicliipabDoorM1
namespace Go.Proofs.YtjjbmioicliipabDoor
open Go.RowKit

/-- What addProduct does, at these numbers. -/
def AddProd (n m : Nat) : Prop := ∀ (g o cap N : Nat) (f : Nat → Int) (ao bo : Option Addr) (ca cb D : Nat) (fa fb : Nat → Int) (w : World), Blk .u64 32 w g N f → Lm f N → o + D ≤ N → n + m ≤ D → N ≤ 140737488355328 →
    Rd .u64 w ao n fa → Rd .u64 w bo m fb → Lm fa n → Lm fb m → (0 < n → Off ao g) → (0 < m → Off bo g) → D ≤ cap → cap ≤ 140737488355328 → vf (sh f o) D + vf fa n * vf fb m < pw D →
    Calls Tryd.prog 50 #[.slice (some ⟨g, o, none⟩) D cap, .slice ao n ca, .slice bo m cb] w fun e w' => e = .returned (.tuple #[]) ∧ Only g w w' ∧
      ∃ f', Blk .u64 32 w' g N f' ∧ Lm f' N ∧ (∀ j, j < o ∨ o + D ≤ j → f' j = f j) ∧ vf (sh f' o) D = vf (sh f o) D + vf fa n * vf fb m

set_option maxHeartbeats 1000000 in
theorem addProd_small (n m : Nat) (h : n < 40 ∨ m < 40) : AddProd n m := by
  intro g o cap N f ao bo ca cb D fa fb w hb hf ho hD hN hra hrb ha hbb hoa hob hcap hcm hroom
  by_cases hsw : n < m
  · have hmul : vf fa n * vf fb m = vf fb m * vf fa n := Int.mul_comm _ _
    rw [hmul] at hroom ⊢
    have c := addLimb_c g o cap N f bo ao m n cb ca D fb fa w hb hf ho (by omega) hN hrb hra hbb ha hob hoa hcap hcm (by omega) hroom
    have C := hid c
    clear c hroom hra hrb ha hbb hoa hob hmul hb hf
    go_enter Tryd.func50, Tryd.ntmps50
    go_wp2_with fail
    refine C.out.mono ?_
    rintro e w' ⟨rfl, hrest⟩
    have HRest := hid hrest
    clear hrest
    go_wp2
    exact bodyPost_end (v := .tuple #[]) (results_none rfl _ _ _) rfl ⟨rfl, HRest.out⟩
  · have c := addLimb_c g o cap N f ao bo n m ca cb D fa fb w hb hf ho (by omega) hN hra hrb ha hbb hoa hob hcap hcm (by omega) hroom
    have C := hid c
    clear c hroom hra hrb ha hbb hoa hob hb hf
    go_enter Tryd.func50, Tryd.ntmps50
    go_wp2_with fail
    refine C.out.mono ?_
    rintro e w' ⟨rfl, hrest⟩
    have HRest := hid hrest
    clear hrest
    go_wp2
    exact bodyPost_end (v := .tuple #[]) (results_none rfl _ _ _) rfl ⟨rfl, HRest.out⟩

theorem prod_lt {fa fb : Nat → Int} {n m : Nat} (ha : Lm fa n) (hb : Lm fb m) : vf fa n * vf fb m < pw (n + m) := by
  have a1 := vf_nonneg ha; have a2 := vf_lt ha; have b1 := vf_nonneg hb; have b2 := vf_lt hb
  rw [pw_add]
  have h1 : vf fa n * vf fb m ≤ vf fa n * pw m := Int.mul_le_mul_of_nonneg_left (Int.le_of_lt b2) a1
  have h2 : vf fa n * pw m < pw n * pw m := (Int.mul_lt_mul_right (pw_pos m)).2 a2
  omega

set_option maxRecDepth 100000 in
set_option maxHeartbeats 1000000 in
/-- product: a * b in a list of just n + m limbs. -/
theorem product_of (ao bo : Option Addr) (n m ca cb : Nat) (fa fb : Nat → Int) (w : World) (hap : AddProd n m) (hn : n ≤ 4398046511104) (hm : m ≤ 4398046511104) (hra : Rd .u64 w ao n fa) (hrb : Rd .u64 w bo m fb) (ha : Lm fa n) (hb : Lm fb m) :
    Calls Tryd.prog 34 #[.slice ao n ca, .slice bo m cb] w fun e w' => e = .returned (.slice (some ⟨w.heap.size, 0, none⟩) (n + m) (n + m)) ∧ Below w.heap.size w w' ∧
      ∃ f', Blk .u64 32 w' w.heap.size (n + m) f' ∧ Lm f' (n + m) ∧ vf f' (n + m) = vf fa n * vf fb m := by
  have HP := hid hap; have HA := hid ha; have HB := hid hb; have RA := hid hra; have RB := hid hrb
  clear hap ha hb hra hrb
  go_enter Tryd.func34, Tryd.ntmps34
  go_wp2_with (at_make; refine wpList_make_blk .u64 w rfl (.tmp 10) (.tmp 10) 22 rfl 32 8 Tryd.underlying22 Tryd.infoU64 .i64 .i64 ((n : Int) + m) ((n : Int) + m) (n + m) rfl rfl (by omega) (by omega) (by omega) (by unfold maxLen; omega) ?_; intro w1 hb1 hbel1)
  have hz : vf (sh (fun _ => (0 : Int)) 0) (n + m) = 0 := vf_zero (fun _ _ => rfl)
  refine (HP.out w.heap.size 0 (n + m) (n + m) (fun _ => 0) ao bo ca cb (n + m) fa fb w1 hb1 (lm_zero _) (by omega) (Nat.le_refl _) (by omega) (RA.out.below hbel1 (Nat.le_refl _)) (RB.out.below hbel1 (Nat.le_refl _)) HA.out HB.out (fun h0 => (RA.out.und h0).off (Nat.le_refl _)) (fun h0 => (RB.out.und h0).off (Nat.le_refl _)) (Nat.le_refl _) (by omega) (by rw [hz]; have := prod_lt HA.out HB.out; omega)).mono ?_
  rintro e w2 ⟨rfl, hon, f2, hb2, hl2, he2, hv2⟩
  rw [hz] at hv2
  have HV2 := hid hv2
  clear hv2 hz
  go_wp2
  go_ret
  exact ⟨rfl, below_only hbel1 hon (Nat.le_refl _) hbel1.size, f2, hb2, hl2, by have := HV2.out; rw [sh_zero] at this; omega⟩

set_option maxHeartbeats 1000000 in
/-- mul: the product. -/
theorem mul_of (ao bo : Option Addr) (n m ca cb : Nat) (fa fb : Nat → Int) (w : World) (hap : AddProd n m) (hn : n ≤ 4398046511104) (hm : m ≤ 4398046511104) (hra : Rd .u64 w ao n fa) (hrb : Rd .u64 w bo m fb) (ha : Lm fa n) (hb : Lm fb m) :
    Calls Tryd.prog 19 #[.slice ao n ca, .slice bo m cb] w fun e w' => ∃ ao' k cap' f', e = .returned (.slice ao' k cap') ∧ Res (n + m) w w' ao' k cap' f' ∧ vf f' k = vf fa n * vf fb m := by
  have c := product_of ao bo n m ca cb fa fb w hap hn hm hra hrb ha hb
  have C := hid c
  clear c hap ha hb hra hrb
  go_enter Tryd.func19, Tryd.ntmps19
  go_wp2_with fail
  refine C.out.mono ?_
  rintro e w1 ⟨rfl, hbel, f1, hb1, hl1, hv1⟩
  have HV1 := hid hv1
  clear hv1
  go_wp2_with fail
  refine (trim_res w.heap.size (n + m) (n + m) f1 w w1 hbel (Nat.le_refl _) hb1 (Nat.le_refl _) (by omega) hl1).mono ?_
  rintro e w2 ⟨rfl, ao', k, cap', rfl, hres, hkn, hv⟩
  have HV := hid hv
  clear hv
  go_wp2
  go_ret
  exact ⟨ao', k, cap', f1, rfl, hres, by rw [HV.out]; exact HV1.out⟩
end Go.Proofs.YtjjbmioicliipabDoor

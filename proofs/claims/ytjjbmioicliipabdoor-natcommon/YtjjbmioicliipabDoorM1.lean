/-
  Walks of package nat's products, limb by limb: mulAdd, mulAddTo, addLimbProducts.
-/
import Derived.Test.YtjjbmioicliipabDoorW7
namespace Go.Proofs.YtjjbmioicliipabDoor
open Go.RowKit

theorem mul64_c (x y : Int) (w : World) (x0 : 0 ≤ x) (x1 : x < 18446744073709551616) (y0 : 0 ≤ y) (y1 : y < 18446744073709551616) :
    Calls Tryd.prog 80 #[.int .u64 x, .int .u64 y] w fun e w' => e = .returned (.tuple #[.int .u64 (x * y / 18446744073709551616), .int .u64 (x * y % 18446744073709551616)]) ∧ w' = w := by
  obtain ⟨x, rfl⟩ := Int.eq_ofNat_of_zero_le x0
  obtain ⟨y, rfl⟩ := Int.eq_ofNat_of_zero_le y0
  refine (Tryd.bits_Mul64 x y (by omega) (by omega) w).mono ?_
  rintro e w' ⟨rfl, rfl⟩
  exact ⟨by simp, rfl⟩
theorem prod_bounds {x y : Int} (x0 : 0 ≤ x) (x1 : x < 18446744073709551616) (y0 : 0 ≤ y) (y1 : y < 18446744073709551616) : 0 ≤ x * y ∧ x * y ≤ 340282366920938463426481119284349108225 := by
  refine ⟨Int.mul_nonneg x0 y0, ?_⟩
  have := Int.mul_le_mul (show x ≤ 18446744073709551615 by omega) (show y ≤ 18446744073709551615 by omega) y0 (by omega)
  omega

set_option maxHeartbeats 1000000 in
theorem mulAdd_c (x y z : Int) (w : World) (x0 : 0 ≤ x) (x1 : x < 18446744073709551616) (y0 : 0 ≤ y) (y1 : y < 18446744073709551616) (z0 : 0 ≤ z) (z1 : z < 18446744073709551616) :
    Calls Tryd.prog 79 #[.int .u64 x, .int .u64 y, .int .u64 z] w fun e w' => e = .returned (.tuple #[.int .u64 ((x * y + z) / 18446744073709551616), .int .u64 ((x * y + z) % 18446744073709551616)]) ∧ w' = w := by
  have c1 := mul64_c x y w x0 x1 y0 y1
  have hb := prod_bounds x0 x1 y0 y1
  generalize x * y = P at *
  obtain ⟨p0, p1⟩ := hb
  obtain ⟨h, hh⟩ : ∃ h, P / 18446744073709551616 = h := ⟨_, rfl⟩
  obtain ⟨l, hl⟩ : ∃ l, P % 18446744073709551616 = l := ⟨_, rfl⟩
  rw [hh, hl] at c1
  have h0 : 0 ≤ h := by omega
  have h1 : h ≤ 18446744073709551614 := by omega
  have l0 : 0 ≤ l := by omega
  have l1 : l < 18446744073709551616 := by omega
  have e1 : (P + z) / 18446744073709551616 = h + (l + z) / 18446744073709551616 := by omega
  have e2 : (P + z) % 18446744073709551616 = (l + z) % 18446744073709551616 := by omega
  have C1 := hid c1; have E1 := hid e1; have E2 := hid e2
  clear c1 e1 e2 hh hl p0 p1
  go_enter Tryd.func79, Tryd.ntmps79
  go_wp2_with fail
  refine C1.out.mono ?_
  rintro e w1 ⟨rfl, rfl⟩
  go_wp2_with (simp only [add64_0 l z l0 z0])
  go_ret2
  exact ⟨by rw [E1.out, E2.out]; rfl, rfl⟩

/-- One limb of a product added. -/
theorem muladd_step {f f' G : Nat → Int} {o k : Nat} {ov wd x h l dd c : Int} (HV : vf (sh f' o) k + ov * pw k = vf (sh f o) k + vf G k * wd) (hE : f' (o + k) = f (o + k)) (hx : G k = x) (h1 : x * wd + ov = h * 18446744073709551616 + l) (h2 : f' (o + k) + l = c * 18446744073709551616 + dd) :
    vf (sh (upd f' (o + k) dd) o) (k + 1) + (h + c) * pw (k + 1) = vf (sh f o) (k + 1) + vf G (k + 1) * wd := by
  have e1 : vf (sh (upd f' (o + k) dd) o) k = vf (sh f' o) k := vf_congr (fun j hj => upd_other _ _ _ _ (by omega))
  rw [vf_succ, vf_succ, vf_succ, e1, pw_succ, sh_at, sh_at, upd_same, hx]
  rw [hE] at h2
  grind

set_option maxHeartbeats 1000000 in
/-- mulAddTo: a * wd is added to the first limbs of d; what goes over is answered. -/
theorem mulAddTo_c (g o n cap N : Nat) (f : Nat → Int) (bo : Option Addr) (m cb : Nat) (h : Nat → Int) (wd : Int) (w : World) (hb : Blk .u64 32 w g N f) (hf : Lm f N) (ho : o + n ≤ N)
    (hr : Rd .u64 w bo m h) (hh : Lm h m) (hoff : 0 < m → Off bo g) (hmn : m ≤ n) (hcap : n ≤ cap) (hcm : cap ≤ 140737488355328) (d0 : 0 ≤ wd) (d1 : wd < 18446744073709551616) :
    Calls Tryd.prog 81 #[.slice (some ⟨g, o, none⟩) n cap, .slice bo m cb, .int .u64 wd] w fun e w' => ∃ ov, e = .returned (.int .u64 ov) ∧ 0 ≤ ov ∧ ov < 18446744073709551616 ∧ Only g w w' ∧
      ∃ f', Blk .u64 32 w' g N f' ∧ Lm f' N ∧ (∀ j, j < o ∨ o + m ≤ j → f' j = f j) ∧ vf (sh f' o) m + ov * pw m = vf (sh f o) m + vf h m * wd := by
  have HH := hid hh
  have HRd := hid hr
  clear hh hr
  go_enter Tryd.func81, Tryd.ntmps81
  go_wp2
  go_loopw [7, 18] (fun c t wr => ∃ (k : Nat) (ov : Int) (f' : Nat → Int), k ≤ m ∧ t = .int .i64 k ∧ c = .int .u64 ov ∧ 0 ≤ ov ∧ ov < 18446744073709551616 ∧ Only g w wr ∧ Blk .u64 32 wr g N f' ∧ Hid (Lm f' N) ∧ Hid (∀ j, j < o ∨ o + k ≤ j → f' j = f j) ∧
      Hid (vf (sh f' o) k + ov * pw k = vf (sh f o) k + vf h k * wd)) (fun _ t _ => m - (intOf t).toNat)
  case atStart => exact ⟨0, 0, f, by omega, rfl, rfl, by omega, by omega, Only.refl _ _, hb, hf, fun _ _ => rfl, by simp [Hid, vf, pw]⟩
  case round =>
    obtain ⟨k, ov, f', hk, rfl, rfl, v0, v1, hon, hbl, HL, HE, HV⟩ := hrel
    by_cases hlt : k < m
    · have hr := HRd.out
      obtain ⟨b, ob, rfl⟩ := hr.at (by omega)
      obtain ⟨x, hx⟩ : ∃ x, f' (o + k) = x := ⟨_, rfl⟩
      obtain ⟨y, hy⟩ : ∃ y, h k = y := ⟨_, rfl⟩
      have hcell : wr.cell? ⟨g, o + k, none⟩ = some (.int .u64 x) := by rw [← hx]; exact hbl.cell (by omega)
      have hcelb : wr.cell? ⟨b, ob + k, none⟩ = some (.int .u64 y) := by rw [← hy]; exact (hr.only hon (hoff (by omega))).cell hlt
      have hfz := hbl.frozen (o + k)
      have hx01 := HL.out (o + k) (by omega)
      have hy01 := HH.out k hlt
      rw [hx] at hx01
      rw [hy] at hy01
      obtain ⟨x0, x1⟩ := hx01
      obtain ⟨y0, y1⟩ := hy01
      have HX := hid hx
      have HY := hid hy
      clear hx hy hr
      have c1 := fun w => mulAdd_c y wd ov w y0 y1 d0 d1 v0 v1
      have hbd := prod_bounds y0 y1 d0 d1
      obtain ⟨hi, hhi⟩ : ∃ hi, (y * wd + ov) / 18446744073709551616 = hi := ⟨_, rfl⟩
      obtain ⟨l, hl⟩ : ∃ l, (y * wd + ov) % 18446744073709551616 = l := ⟨_, rfl⟩
      rw [hhi, hl] at c1
      have hP : y * wd + ov = hi * 18446744073709551616 + l := by omega
      have i0 : 0 ≤ hi := by omega
      have l0 : 0 ≤ l := by omega
      have l1 : l < 18446744073709551616 := by omega
      have i1 : hi + (x + l) / 18446744073709551616 < 18446744073709551616 := by omega
      have C1 := hid c1; have HP := hid hP
      clear c1 hP hbd hhi hl
      go_wp2_with fail
      refine (C1.out _).mono ?_
      rintro e wx ⟨rfl, rfl⟩
      go_wp2_with (simp only [add64_0 x l x0 l0])
      go_roundw
      case rel =>
        refine ⟨k + 1, hi + (x + l) / 18446744073709551616, upd f' (o + k) ((x + l) % 18446744073709551616), by omega, by go_num, rfl, by omega, by omega, hon.setCell _ _ _, hbl.set _ _, HL.out.upd (by omega), ?_, ?_⟩
        · intro j hj
          rw [upd_other _ _ _ _ (by omega)]
          exact HE.out j (by omega)
        · exact muladd_step HV.out (HE.out _ (by omega)) HY.out HP.out (by rw [HX.out]; omega)
      case measure => simp [intOf]; omega
    · have hkm : k = m := by omega
      subst hkm
      go_wp2
      go_ret
      exact ⟨ov, rfl, v0, v1, hon, f', hbl, HL.out, HE.out, HV.out⟩

/-- A product's row: what is added, put together. -/
theorem row_val {f f1 f2 : Nat → Int} {i n m : Nat} {ov V y : Int} (h1 : vf (sh f1 i) n + ov * pw n = vf (sh f i) n + V * y) (h2 : vf (sh f2 (i + n)) m = vf (sh f1 (i + n)) m + ov) (e1 : ∀ j, j < i + n → f2 j = f1 j) (e2 : ∀ j, j < i ∨ i + n ≤ j → f1 j = f j) :
    vf f2 (i + (n + m)) = vf f (i + (n + m)) + V * y * pw i := by
  rw [vf_split f2 i, vf_split f i, vf_split (sh f2 i) n, vf_split (sh f i) n, sh_sh, sh_sh]
  rw [vf_congr (f := f2) (g := f) (n := i) (fun j hj => (e1 j (by omega)).trans (e2 j (by omega)))]
  rw [vf_congr (f := sh f2 i) (g := sh f1 i) (n := n) (fun j hj => e1 _ (by omega)), h2]
  rw [vf_congr (f := sh f1 (i + n)) (g := sh f (i + n)) (n := m) (fun j hj => e2 _ (by omega))]
  have : vf (sh f1 i) n = vf (sh f i) n + V * y - ov * pw n := by omega
  rw [this]
  grind

theorem row_room {f f1 : Nat → Int} {i n r : Nat} {ov V y : Int} (h1 : vf (sh f1 i) n + ov * pw n = vf (sh f i) n + V * y) (e2 : ∀ j, j < i ∨ i + n ≤ j → f1 j = f j) (hlt : vf f (i + (n + r)) + V * y * pw i < pw (i + (n + r))) (hL : Lm f1 (i + n)) :
    vf (sh f1 (i + n)) r + ov < pw r := by
  have a1 := vf_nonneg (hL.mono (m := i) (by omega))
  have a2 := vf_nonneg (hL.sh (o := i) (m := n) (by omega))
  rw [vf_split f i, vf_split (sh f i) n, sh_sh, pw_add, pw_add] at hlt
  rw [vf_congr (f := sh f1 (i + n)) (g := sh f (i + n)) (n := r) (fun j hj => e2 _ (by omega))]
  rw [vf_congr (f := f) (g := f1) (n := i) (fun j hj => (e2 j (by omega)).symm)] at hlt
  have e : vf (sh f i) n + V * y = vf (sh f1 i) n + ov * pw n := h1.symm
  have hp := pw_pos i
  have hq := pw_pos n
  have k1 : (vf (sh f (i + n)) r + ov) * (pw n * pw i) < pw r * (pw n * pw i) := by
    have k2 : 0 ≤ vf (sh f1 i) n * pw i := Int.mul_nonneg a2 (Int.le_of_lt hp)
    have k3 : (vf (sh f i) n + vf (sh f (i + n)) r * pw n) * pw i + V * y * pw i = vf (sh f1 i) n * pw i + (vf (sh f (i + n)) r + ov) * (pw n * pw i) := by
      have : vf (sh f i) n = vf (sh f1 i) n + ov * pw n - V * y := by omega
      rw [this]; grind
    have k4 : pw i * (pw n * pw r) = pw r * (pw n * pw i) := by grind
    omega
  exact Int.lt_of_mul_lt_mul_right k1 (Int.le_of_lt (Int.mul_pos hq hp))

theorem addl_fin {A B C V y p s t : Int} (h1 : A = B + V * y * p) (h2 : B = C + V * s) (h3 : t = s + y * p) : A = C + V * t := by
  rw [h1, h2, h3]; grind
theorem addl_room {f' f1 : Nat → Int} {o i n r D N : Nat} {ov V y : Int} (HV1 : vf (sh f1 (o + i)) n + ov * pw n = vf (sh f' (o + i)) n + V * y) (HE1 : ∀ j, j < o + i ∨ o + i + n ≤ j → f1 j = f' j) (HRoom : vf (sh f' o) (i + (n + r)) + V * y * pw i < pw (i + (n + r))) (HL1 : Lm f1 N) (hN : o + D ≤ N) (hD : D = i + (n + r)) :
    vf (sh f1 (o + (i + n))) (D - (i + n)) + ov < pw (D - (i + n)) := by
  have e : D - (i + n) = r := by omega
  rw [e, ← sh_sh]
  exact row_room (f := sh f' o) (f1 := sh f1 o) (by rw [sh_sh, sh_sh]; exact HV1) (fun j hj => HE1 _ (by omega)) HRoom (HL1.sh (by omega))
theorem addl_val {f' f1 f2 : Nat → Int} {o i n r D : Nat} {ov V y : Int} (HV1 : vf (sh f1 (o + i)) n + ov * pw n = vf (sh f' (o + i)) n + V * y) (HE1 : ∀ j, j < o + i ∨ o + i + n ≤ j → f1 j = f' j) (hv2 : vf (sh f2 (o + (i + n))) (D - (i + n)) = vf (sh f1 (o + (i + n))) (D - (i + n)) + ov) (he2 : ∀ j, j < o + (i + n) → f2 j = f1 j) (hD : D = i + (n + r)) :
    vf (sh f2 o) D = vf (sh f' o) D + V * y * pw i := by
  have e : D - (i + n) = r := by omega
  rw [e] at hv2
  rw [hD]
  exact row_val (f := sh f' o) (f1 := sh f1 o) (by rw [sh_sh, sh_sh]; exact HV1) (by rw [sh_sh, sh_sh]; exact hv2) (fun j hj => he2 _ (by omega)) (fun j hj => HE1 _ (by omega))

set_option maxHeartbeats 2000000 in
/-- addLimbProducts: a * b is added to d, which has just n + m limbs. -/
theorem addLimb_c (g o cap N : Nat) (f : Nat → Int) (ao bo : Option Addr) (n m ca cb D : Nat) (fa fb : Nat → Int) (w : World) (hb : Blk .u64 32 w g N f) (hf : Lm f N) (ho : o + D ≤ N) (hD : n + m ≤ D) (hm : N ≤ 140737488355328)
    (hra : Rd .u64 w ao n fa) (hrb : Rd .u64 w bo m fb) (ha : Lm fa n) (hbb : Lm fb m) (hoa : 0 < n → Off ao g) (hob : 0 < m → Off bo g) (hcap : D ≤ cap) (hcm : cap ≤ 140737488355328) (hmn : m ≤ n)
    (hroom : vf (sh f o) D + vf fa n * vf fb m < pw D) :
    Calls Tryd.prog 69 #[.slice (some ⟨g, o, none⟩) D cap, .slice ao n ca, .slice bo m cb] w fun e w' => e = .returned (.tuple #[]) ∧ Only g w w' ∧
      ∃ f', Blk .u64 32 w' g N f' ∧ Lm f' N ∧ (∀ j, j < o ∨ o + D ≤ j → f' j = f j) ∧ vf (sh f' o) D = vf (sh f o) D + vf fa n * vf fb m := by
  have HA := hid ha; have HB := hid hbb; have RA := hid hra; have RB := hid hrb; have HR := hid hroom
  clear ha hbb hra hrb hroom
  go_enter Tryd.func69, Tryd.ntmps69
  go_wp2
  go_loopw [9] (fun t wr => ∃ (i : Nat) (f' : Nat → Int), i ≤ m ∧ t = .int .i64 i ∧ Only g w wr ∧ Blk .u64 32 wr g N f' ∧ Hid (Lm f' N) ∧ Hid (∀ j, j < o ∨ o + D ≤ j → f' j = f j) ∧
      Hid (vf (sh f' o) D = vf (sh f o) D + vf fa n * vf fb i)) (fun t _ => m - (intOf t).toNat)
  case atStart => exact ⟨0, f, by omega, rfl, Only.refl _ _, hb, hf, fun _ _ => rfl, by simp [Hid, vf]⟩
  case round =>
    obtain ⟨i, f', hi, rfl, hon, hbl, HL, HE, HV⟩ := hrel
    by_cases hlt : i < m
    · have hn0 : 0 < n := by omega
      have hrb := RB.out
      obtain ⟨b, ob, rfl⟩ := hrb.at (by omega)
      obtain ⟨y, hy⟩ : ∃ y, fb i = y := ⟨_, rfl⟩
      have hcelb : wr.cell? ⟨b, ob + i, none⟩ = some (.int .u64 y) := by rw [← hy]; exact (hrb.only hon (hob (by omega))).cell hlt
      have hy01 := HB.out i hlt
      rw [hy] at hy01
      obtain ⟨y0, y1⟩ := hy01
      have HY := hid hy
      clear hy hrb
      obtain ⟨r, hr⟩ : ∃ r, D = i + (n + r) := ⟨D - (i + n), by omega⟩
      have hle : vf fb (i + 1) ≤ vf fb m := vf_le HB.out (by omega)
      have hroom : vf (sh f' o) (i + (n + r)) + vf fa n * y * pw i < pw (i + (n + r)) := by
        have h1 := HV.out
        have h2 := HR.out
        rw [hr] at h1 h2
        rw [h1]
        have h3 : vf fa n * vf fb (i + 1) ≤ vf fa n * vf fb m := Int.mul_le_mul_of_nonneg_left hle (vf_nonneg HA.out)
        rw [vf_succ, HY.out, Int.mul_add, ← Int.mul_assoc] at h3
        omega
      have HRoom := hid hroom
      have HD := hid hr
      have hrn : D - (i + n) = r := by omega
      have HDr := hid hrn
      clear hr hle hroom hrn
      have HRA := hid (RA.out.only hon (hoa hn0))
      have hne1 : ¬ (i + n = cap) := by omega
      have hne3 : ¬ (cap = i + n) := by omega
      have hne4 : ¬ (cap = i) := by omega
      have hne5 : ¬ (cap - (i + n) = 0) := by omega
      have hne6 : ¬ (cap - i = 0) := by omega
      have hw1 : IntKind.i64.wrap ((i : Int) + n) = (i : Int) + n := by rw [IntKind.wrap_i64]; omega
      have ht1 : ((i : Int) + n).toNat = i + n := by omega
      have hne2 : ¬ (i = cap) := by omega
      have hlt1 : i + n < D := by omega
      go_wp2_with fail
      go_region_with (first | (go_at_call 81; refine (mulAddTo_c g (o + i) (D - i) (cap - i) N f' ao n ca fa y _ (by exact hbl) HL.out (by omega) (by exact HRA.out) HA.out hoa (by omega) (by omega) (by omega) y0 y1).mono ?_; rintro e w1 ⟨ov, rfl, v0, v1, hon1, f1, hb1, hl1, he1, hv1⟩; have HL1 := hid hl1; have HE1 := hid he1; have HV1 := hid hv1; clear hl1 he1 hv1) | (go_at_call 60; refine (addWord_c g (o + (i + n)) (D - (i + n)) (cap - (i + n)) N f1 ov _ (by exact hb1) HL1.out (by omega) hm v0 v1 (addl_room HV1.out HE1.out HRoom.out HL1.out ho HD.out)).mono ?_; rintro e w2 ⟨rfl, hon2, f2, hb2, hl2, he2, hv2⟩; have HL2 := hid hl2; have HE2 := hid he2; have HV2 := hid hv2; clear hl2 he2 hv2))
      all_goals
        go_wp2
        go_roundw
        case rel =>
          refine ⟨i + 1, f2, by omega, by go_num, (hon.drew.trans hon1).trans hon2, hb2, HL2.out, fun j hj => ?_, ?_⟩
          · exact (HE2.out j (by have := HDr.out; have := HD.out; omega)).trans ((HE1.out j (by omega)).trans (HE.out j hj))
          · exact addl_fin (addl_val HV1.out HE1.out HV2.out (fun j hj => HE2.out j (.inl hj)) HD.out) HV.out (by rw [vf_succ, HY.out])
        case measure => simp [intOf]; omega
    · have him : i = m := by omega
      subst him
      go_wp2
      exact bodyPost_end (v := .tuple #[]) (results_none rfl _ _ _) rfl ⟨rfl, hon, f', hbl, HL.out, HE.out, HV.out⟩
end Go.Proofs.YtjjbmioicliipabDoor

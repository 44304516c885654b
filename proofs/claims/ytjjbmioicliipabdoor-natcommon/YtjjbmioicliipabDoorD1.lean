/-
  Walks of package nat's long division, its parts: addWord and addTo with what goes over, mulSubFrom, guess.
-/
import Derived.Test.YtjjbmioicliipabDoorM1
namespace Go.Proofs.YtjjbmioicliipabDoor
open Go.RowKit

set_option maxHeartbeats 800000 in
/-- addWord: the number in the first n limbs from o on grows by w0; c goes over. -/
theorem addWord_g (g o n cap N : Nat) (f : Nat → Int) (w0 : Int) (w : World) (hb : Blk .u64 32 w g N f) (hf : Lm f N) (ho : o + n ≤ N) (hm : N ≤ 140737488355328) (h0 : 0 ≤ w0) (h1 : w0 < 18446744073709551616) :
    Calls Tryd.prog 60 #[.slice (some ⟨g, o, none⟩) n cap, .int .u64 w0] w fun e w' => e = .returned (.tuple #[]) ∧ Only g w w' ∧
      ∃ f' c, Blk .u64 32 w' g N f' ∧ Lm f' N ∧ (∀ j, j < o ∨ o + n ≤ j → f' j = f j) ∧ 0 ≤ c ∧ vf (sh f' o) n + c * pw n = vf (sh f o) n + w0 := by
  go_enter Tryd.func60, Tryd.ntmps60
  go_wp2
  go_loopw [1, 7] (fun c t wr => ∃ (k : Nat) (cc : Int) (f' : Nat → Int), k ≤ n ∧ t = .int .i64 k ∧ c = .int .u64 cc ∧ 0 ≤ cc ∧ cc < 18446744073709551616 ∧ Only g w wr ∧ Blk .u64 32 wr g N f' ∧ Hid (Lm f' N) ∧ Hid (∀ j, j < o ∨ o + k ≤ j → f' j = f j) ∧
      Hid (vf (sh f' o) k + cc * pw k = vf (sh f o) k + vf (fun _ => 0) k + w0)) (fun _ t _ => n - (intOf t).toNat)
  case atStart => exact ⟨0, w0, f, by omega, rfl, rfl, h0, h1, Only.refl _ _, hb, hf, fun _ _ => rfl, by simp [Hid, vf, pw]⟩
  case round =>
    obtain ⟨k, cc, f', hk, rfl, rfl, c0, c1, hon, hbl, HL, HE, HV⟩ := hrel
    have z0 : ∀ i, vf (fun _ => 0) i = 0 := fun i => vf_zero (fun _ _ => rfl)
    have Z0 := hid z0
    clear z0
    by_cases hlt : k < n
    · by_cases hc : cc = 0
      · subst hc
        go_wp2
        refine bodyPost_ret (v := .tuple #[]) (results_none rfl _ _ _) rfl ⟨rfl, hon, f', 0, hbl, HL.out, fun j hj => HE.out j (by omega), by omega, ?_⟩
        have hv := HV.out
        obtain ⟨d, rfl⟩ := Nat.exists_eq_add_of_le (show k ≤ n by omega)
        rw [vf_split, vf_split (sh f o), sh_sh, sh_sh, vf_congr (f := sh f' (o + k)) (g := sh f (o + k)) (fun j hj => HE.out _ (by omega))]
        rw [Z0.out] at hv
        omega
      · have hc1 : (cc == 0) = false := by simp [hc]
        obtain ⟨x, hx⟩ : ∃ x, f' (o + k) = x := ⟨_, rfl⟩
        have hcell : wr.cell? ⟨g, o + k, none⟩ = some (.int .u64 x) := by rw [← hx]; exact hbl.cell (by omega)
        have hfz := hbl.frozen (o + k)
        have hx01 := HL.out (o + k) (by omega)
        rw [hx] at hx01
        obtain ⟨x0, x1⟩ := hx01
        have HX := hid hx
        clear hx
        go_wp2_with (simp only [add64_0 x cc x0 c0])
        go_roundw
        case rel =>
          refine ⟨k + 1, _, upd f' (o + k) ((x + cc) % 18446744073709551616), by omega, by go_num, rfl, by omega, by omega, hon.setCell _ _ _, hbl.set _ _, HL.out.upd (by omega), ?_, ?_⟩
          · intro j hj
            rw [upd_other _ _ _ _ (by omega)]
            exact HE.out j (by omega)
          · have := carry_step (y := 0) HV.out (HE.out _ (by omega)) rfl
            rw [HX.out] at this
            simpa [Hid] using this
        case measure => simp [intOf]; omega
    · have hkn : k = n := by omega
      subst hkn
      go_wp2
      refine bodyPost_end (v := .tuple #[]) (results_none rfl _ _ _) rfl ⟨rfl, hon, f', cc, hbl, HL.out, HE.out, c0, ?_⟩
      have hv := HV.out
      rw [Z0.out] at hv
      omega

set_option maxHeartbeats 1000000 in
/-- addTo: the number in the first n limbs from o on grows by the number b; c goes over. -/
theorem addTo_g (g o n cap N : Nat) (f : Nat → Int) (bo : Option Addr) (m cb : Nat) (h : Nat → Int) (w : World) (hb : Blk .u64 32 w g N f) (hf : Lm f N) (ho : o + n ≤ N) (hm : N ≤ 140737488355328)
    (hr : Rd .u64 w bo m h) (hh : Lm h m) (hoff : 0 < m → Off bo g) (hmn : m < n) (hcap : n ≤ cap) (hcm : cap ≤ 140737488355328) :
    Calls Tryd.prog 41 #[.slice (some ⟨g, o, none⟩) n cap, .slice bo m cb] w fun e w' => e = .returned (.tuple #[]) ∧ Only g w w' ∧
      ∃ f' c, Blk .u64 32 w' g N f' ∧ Lm f' N ∧ (∀ j, j < o ∨ o + n ≤ j → f' j = f j) ∧ 0 ≤ c ∧ vf (sh f' o) n + c * pw n = vf (sh f o) n + vf h m := by
  have HH := (show Hid (Lm h m) from hh)
  have HRd := (show Hid (Rd .u64 w bo m h) from hr)
  clear hh hr
  go_enter Tryd.func41, Tryd.ntmps41
  go_wp2
  go_loopw [4, 8] (fun c t wr => ∃ (k : Nat) (cc : Int) (f' : Nat → Int), k ≤ m ∧ t = .int .i64 k ∧ c = .int .u64 cc ∧ 0 ≤ cc ∧ cc ≤ 1 ∧ Only g w wr ∧ Blk .u64 32 wr g N f' ∧ Hid (Lm f' N) ∧ Hid (∀ j, j < o ∨ o + k ≤ j → f' j = f j) ∧
      Hid (vf (sh f' o) k + cc * pw k = vf (sh f o) k + vf h k + 0)) (fun _ t _ => m - (intOf t).toNat)
  case atStart => exact ⟨0, 0, f, by omega, rfl, rfl, by omega, by omega, Only.refl _ _, hb, hf, fun _ _ => rfl, by simp [Hid, vf, pw]⟩
  case round =>
    obtain ⟨k, cc, f', hk, rfl, rfl, c0, c1, hon, hbl, HL, HE, HV⟩ := hrel
    by_cases hlt : k < m
    · have hr := HRd.out
      obtain ⟨b, ob, rfl⟩ := hr.at (by omega)
      obtain ⟨x, hx⟩ : ∃ x, f' (o + k) = x := ⟨_, rfl⟩
      obtain ⟨y, hy⟩ : ∃ y, h k = y := ⟨_, rfl⟩
      have hcell : wr.cell? ⟨g, o + k, none⟩ = some (.int .u64 x) := by rw [← hx]; exact hbl.cell (by omega)
      have hcelb : wr.cell? ⟨b, ob + k, none⟩ = some (.int .u64 y) := by rw [← hy]; exact (hr.only hon (hoff (by omega))).cell hlt
      have hfz := hbl.frozen (o + k)
      have hx01 := HL.out (o + k) (by omega)
      have hy01 := HH.out k hlt
      rw [hx] at hx01
      rw [hy] at hy01
      obtain ⟨x0, x1⟩ := hx01
      obtain ⟨y0, y1⟩ := hy01
      have HX := hid hx
      have HY := hid hy
      clear hx hy hr
      have hadd := fun w => add64 x y cc x0 y0 c0 c1 w
      go_wp2
      go_region
      all_goals
        go_wp2
        go_roundw
        case rel =>
          refine ⟨k + 1, _, upd f' (o + k) ((x + y + cc) % 18446744073709551616), by omega, by go_num, rfl, by omega, by omega, ?_, ?_, HL.out.upd (by omega), ?_, ?_⟩
          · exact (hon.setCell _ _ _).drew
          · exact (hbl.set _ _).drew
          · intro j hj
            rw [upd_other _ _ _ _ (by omega)]
            exact HE.out j (by omega)
          · have := carry_step (y := y) HV.out (HE.out _ (by omega)) HY.out
            rw [HX.out] at this
            exact this
        case measure => simp [intOf]; omega
    · have hkm : k = m := by omega
      subst hkm
      obtain ⟨d, rfl⟩ := Nat.exists_eq_add_of_le (Nat.le_of_lt hmn)
      have HS := hid (show ∀ j, j < d → sh f' (o + k) j = sh f (o + k) j from fun j hj => HE.out _ (by omega))
      have hne : ¬ (k = cap) := by omega
      go_wp2_with fail
      refine (addWord_g g (o + k) d (cap - k) N f' cc wr hbl HL.out (by omega) hm c0 (by omega)).mono ?_
      rintro e w' ⟨rfl, hon2, f2, c2, hb2, hl2, he2, hc2, hv2⟩
      have HV2 := hid hv2
      clear hv2
      go_wp2
      refine bodyPost_end (v := .tuple #[]) (results_none rfl _ _ _) rfl ⟨rfl, hon.trans hon2, f2, c2, hb2, hl2, fun j hj => (he2 j (by omega)).trans (HE.out j (by omega)), hc2, ?_⟩
      have hv := HV.out
      have hv2 := HV2.out
      rw [vf_split, vf_split (sh f o), sh_sh, sh_sh, pw_add, vf_congr (f := sh f2 o) (g := sh f' o) (n := k) (fun j hj => he2 _ (by omega))]
      rw [vf_congr HS.out] at hv2
      have e1 : (vf (sh f2 (o + k)) d + c2 * pw d) * pw k = (vf (sh f (o + k)) d + cc) * pw k := by rw [hv2]
      rw [Int.add_mul, Int.add_mul, Int.mul_assoc c2, Int.mul_comm (pw d)] at e1
      omega

/-- One limb of a product taken. -/
theorem mulsub_step {f f' G : Nat → Int} {o k : Nat} {ov wd x y hi l d b : Int} (HV : vf (sh f' o) k + vf G k * wd = vf (sh f o) k + ov * pw k) (hE : f' (o + k) = f (o + k)) (hx : f' (o + k) = x) (hy : G k = y) (h1 : y * wd + ov = hi * 18446744073709551616 + l) (h2 : d = x - l + b * 18446744073709551616) :
    vf (sh (upd f' (o + k) d) o) (k + 1) + vf G (k + 1) * wd = vf (sh f o) (k + 1) + (hi + b) * pw (k + 1) := by
  have e1 : vf (sh (upd f' (o + k) d) o) k = vf (sh f' o) k := vf_congr (fun j hj => upd_other _ _ _ _ (by omega))
  rw [vf_succ, vf_succ, vf_succ, e1, pw_succ, sh_at, sh_at, upd_same, hy, ← hE, hx, h2]
  grind

set_option maxHeartbeats 1000000 in
/-- mulSubFrom: a * wd is taken from the first limbs of d; what was borrowed is answered. -/
theorem mulSubFrom_c (g o n cap N : Nat) (f : Nat → Int) (bo : Option Addr) (m cb : Nat) (h : Nat → Int) (wd : Int) (w : World) (hb : Blk .u64 32 w g N f) (hf : Lm f N) (ho : o + n ≤ N)
    (hr : Rd .u64 w bo m h) (hh : Lm h m) (hoff : 0 < m → Off bo g) (hmn : m ≤ n) (hcap : n ≤ cap) (hcm : cap ≤ 140737488355328) (d0 : 0 ≤ wd) (d1 : wd < 18446744073709551616) :
    Calls Tryd.prog 68 #[.slice (some ⟨g, o, none⟩) n cap, .slice bo m cb, .int .u64 wd] w fun e w' => ∃ ov, e = .returned (.int .u64 ov) ∧ 0 ≤ ov ∧ ov < 18446744073709551616 ∧ Only g w w' ∧
      ∃ f', Blk .u64 32 w' g N f' ∧ Lm f' N ∧ (∀ j, j < o ∨ o + m ≤ j → f' j = f j) ∧ vf (sh f' o) m + vf h m * wd = vf (sh f o) m + ov * pw m := by
  have HH := hid hh
  have HRd := hid hr
  clear hh hr
  go_enter Tryd.func68, Tryd.ntmps68
  go_wp2
  go_loopw [7, 18] (fun c t wr => ∃ (k : Nat) (ov : Int) (f' : Nat → Int), k ≤ m ∧ t = .int .i64 k ∧ c = .int .u64 ov ∧ 0 ≤ ov ∧ ov < 18446744073709551616 ∧ Only g w wr ∧ Blk .u64 32 wr g N f' ∧ Hid (Lm f' N) ∧ Hid (∀ j, j < o ∨ o + k ≤ j → f' j = f j) ∧
      Hid (vf (sh f' o) k + vf h k * wd = vf (sh f o) k + ov * pw k)) (fun _ t _ => m - (intOf t).toNat)
  case atStart => exact ⟨0, 0, f, by omega, rfl, rfl, by omega, by omega, Only.refl _ _, hb, hf, fun _ _ => rfl, by simp [Hid, vf, pw]⟩
  case round =>
    obtain ⟨k, ov, f', hk, rfl, rfl, v0, v1, hon, hbl, HL, HE, HV⟩ := hrel
    by_cases hlt : k < m
    · have hr := HRd.out
      obtain ⟨b, ob, rfl⟩ := hr.at (by omega)
      obtain ⟨x, hx⟩ : ∃ x, f' (o + k) = x := ⟨_, rfl⟩
      obtain ⟨y, hy⟩ : ∃ y, h k = y := ⟨_, rfl⟩
      have hcell : wr.cell? ⟨g, o + k, none⟩ = some (.int .u64 x) := by rw [← hx]; exact hbl.cell (by omega)
      have hcelb : wr.cell? ⟨b, ob + k, none⟩ = some (.int .u64 y) := by rw [← hy]; exact (hr.only hon (hoff (by omega))).cell hlt
      have hfz := hbl.frozen (o + k)
      have hx01 := HL.out (o + k) (by omega)
      have hy01 := HH.out k hlt
      rw [hx] at hx01
      rw [hy] at hy01
      obtain ⟨x0, x1⟩ := hx01
      obtain ⟨y0, y1⟩ := hy01
      have HX := hid hx
      have HY := hid hy
      clear hx hy hr
      have c1 := fun w => mulAdd_c y wd ov w y0 y1 d0 d1 v0 v1
      have hbd := prod_bounds y0 y1 d0 d1
      obtain ⟨hi, hhi⟩ : ∃ hi, (y * wd + ov) / 18446744073709551616 = hi := ⟨_, rfl⟩
      obtain ⟨l, hl⟩ : ∃ l, (y * wd + ov) % 18446744073709551616 = l := ⟨_, rfl⟩
      rw [hhi, hl] at c1
      have hP : y * wd + ov = hi * 18446744073709551616 + l := by omega
      have i0 : 0 ≤ hi := by omega
      have i1 : hi + bor x l < 18446744073709551616 := by have := bor_01 x l; unfold bor; split <;> omega
      have l0 : 0 ≤ l := by omega
      have l1 : l < 18446744073709551616 := by omega
      obtain ⟨bb, hbb⟩ : ∃ bb, bor x l = bb := ⟨_, rfl⟩
      have bb0 : 0 ≤ bb := by rw [← hbb]; exact (bor_01 _ _).1
      have bb1 : bb ≤ 1 := by rw [← hbb]; exact (bor_01 _ _).2
      have hd : (x - l) % 18446744073709551616 = x - l + bb * 18446744073709551616 := by
        rw [← hbb]; unfold bor; split <;> omega
      have hsub := fun w => sub64_0 x l x0 l0 l1 w
      simp only [hbb] at hsub
      obtain ⟨dd, hdd⟩ : ∃ dd, (x - l) % 18446744073709551616 = dd := ⟨_, rfl⟩
      rw [hdd] at hd
      rw [hbb] at i1
      simp only [hdd] at hsub
      have dd0 : 0 ≤ dd ∧ dd < 18446744073709551616 := by omega
      have C1 := hid c1; have HP := hid hP; have HD := hid hd
      clear c1 hP hbd hhi hl hd hdd hbb
      go_wp2_with fail
      refine (C1.out _).mono ?_
      rintro e wx ⟨rfl, rfl⟩
      go_wp2
      go_roundw
      case rel =>
        refine ⟨k + 1, hi + bb, upd f' (o + k) dd, by omega, by go_num, rfl, by omega, by omega, hon.setCell _ _ _, hbl.set _ _, HL.out.upd dd0, ?_, ?_⟩
        · intro j hj
          rw [upd_other _ _ _ _ (by omega)]
          exact HE.out j (by omega)
        · exact mulsub_step HV.out (HE.out _ (by omega)) HX.out HY.out HP.out HD.out
      case measure => simp [intOf]; omega
    · have hkm : k = m := by omega
      subst hkm
      go_wp2
      go_ret
      exact ⟨ov, rfl, v0, v1, hon, f', hbl, HL.out, HE.out, HV.out⟩
end Go.Proofs.YtjjbmioicliipabDoor

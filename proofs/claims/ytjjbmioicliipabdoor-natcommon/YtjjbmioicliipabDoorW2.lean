/-
  Walks of package nat's sums and differences in place: addWord, addTo, subFrom.
-/
import Derived.Test.YtjjbmioicliipabDoorW1
import Derived.Test.YtjjbmioicliipabDoorBits
import Derived.BigRegion
namespace Go.Proofs.YtjjbmioicliipabDoor
open Go.RowKit

/-- One limb of a sum. -/
theorem add_limb {V x c p : Int} : V + ((x + c) % 18446744073709551616) * p + ((x + c) / 18446744073709551616) * (18446744073709551616 * p) = V + x * p + c * p := by
  have e : x + c = 18446744073709551616 * ((x + c) / 18446744073709551616) + (x + c) % 18446744073709551616 := by omega
  grind

/-- The invariant of a carry: one round. -/
theorem carry_step {f f' : Nat → Int} {o k : Nat} {cc w0 y : Int} {G : Nat → Int} (HV : vf (sh f' o) k + cc * pw k = vf (sh f o) k + vf G k + w0) (hE : f' (o + k) = f (o + k)) (hy : G k = y) :
    vf (sh (upd f' (o + k) ((f' (o + k) + y + cc) % 18446744073709551616)) o) (k + 1) + ((f' (o + k) + y + cc) / 18446744073709551616) * pw (k + 1) = vf (sh f o) (k + 1) + vf G (k + 1) + w0 := by
  have e1 : vf (sh (upd f' (o + k) ((f' (o + k) + y + cc) % 18446744073709551616)) o) k = vf (sh f' o) k := vf_congr (fun j hj => upd_other _ _ _ _ (by omega))
  rw [vf_succ, vf_succ, vf_succ, e1, pw_succ, sh_at, sh_at, upd_same, hE, hy]
  have := add_limb (V := vf (sh f' o) k) (x := f (o + k) + y) (c := cc) (p := pw k)
  rw [this]
  grind

theorem addWord_0 (ao : Option Addr) (cap : Nat) (w0 : Int) (w : World) : Calls Tryd.prog 60 #[.slice ao 0 cap, .int .u64 w0] w fun e w' => e = .returned (.tuple #[]) ∧ w' = w := by
  go_enter Tryd.func60, Tryd.ntmps60
  go_wp2
  refine wp_loop_rounds 1 ?_
  rw [rounds_succ]
  go_wp2
  exact bodyPost_end (v := .tuple #[]) (results_none rfl _ _ _) rfl ⟨rfl, rfl⟩

set_option maxHeartbeats 800000 in
/-- addWord: the number in the first n limbs from o on grows by w0. -/
theorem addWord_c (g o n cap N : Nat) (f : Nat → Int) (w0 : Int) (w : World) (hb : Blk .u64 32 w g N f) (hf : Lm f N) (ho : o + n ≤ N) (hm : N ≤ 140737488355328) (h0 : 0 ≤ w0) (h1 : w0 < 18446744073709551616)
    (hroom : vf (sh f o) n + w0 < pw n) :
    Calls Tryd.prog 60 #[.slice (some ⟨g, o, none⟩) n cap, .int .u64 w0] w fun e w' => e = .returned (.tuple #[]) ∧ Only g w w' ∧
      ∃ f', Blk .u64 32 w' g N f' ∧ Lm f' N ∧ (∀ j, j < o ∨ o + n ≤ j → f' j = f j) ∧ vf (sh f' o) n = vf (sh f o) n + w0 := by
  have HR := hid hroom
  clear hroom
  go_enter Tryd.func60, Tryd.ntmps60
  go_wp2
  go_loopw [1, 7] (fun c t wr => ∃ (k : Nat) (cc : Int) (f' : Nat → Int), k ≤ n ∧ t = .int .i64 k ∧ c = .int .u64 cc ∧ 0 ≤ cc ∧ cc < 18446744073709551616 ∧ Only g w wr ∧ Blk .u64 32 wr g N f' ∧ Hid (Lm f' N) ∧ Hid (∀ j, j < o ∨ o + k ≤ j → f' j = f j) ∧
      Hid (vf (sh f' o) k + cc * pw k = vf (sh f o) k + vf (fun _ => 0) k + w0)) (fun _ t _ => n - (intOf t).toNat)
  case atStart => exact ⟨0, w0, f, by omega, rfl, rfl, h0, h1, Only.refl _ _, hb, hf, fun _ _ => rfl, by simp [Hid, vf, pw]⟩
  case round =>
    obtain ⟨k, cc, f', hk, rfl, rfl, c0, c1, hon, hbl, HL, HE, HV⟩ := hrel
    have z0 : ∀ i, vf (fun _ => 0) i = 0 := fun i => vf_zero (fun _ _ => rfl)
    have Z0 := hid z0
    clear z0
    by_cases hlt : k < n
    · by_cases hc : cc = 0
      · subst hc
        go_wp2
        refine bodyPost_ret (v := .tuple #[]) (results_none rfl _ _ _) rfl ⟨rfl, hon, f', hbl, HL.out, fun j hj => HE.out j (by omega), ?_⟩
        have hv := HV.out
        obtain ⟨d, rfl⟩ := Nat.exists_eq_add_of_le (show k ≤ n by omega)
        rw [vf_split, vf_split (sh f o), sh_sh, sh_sh, vf_congr (f := sh f' (o + k)) (g := sh f (o + k)) (fun j hj => HE.out _ (by omega))]
        rw [Z0.out] at hv
        omega
      · have hc1 : (cc == 0) = false := by simp [hc]
        obtain ⟨x, hx⟩ : ∃ x, f' (o + k) = x := ⟨_, rfl⟩
        have hcell : wr.cell? ⟨g, o + k, none⟩ = some (.int .u64 x) := by rw [← hx]; exact hbl.cell (by omega)
        have hfz := hbl.frozen (o + k)
        have hx01 := HL.out (o + k) (by omega)
        rw [hx] at hx01
        obtain ⟨x0, x1⟩ := hx01
        have HX := hid hx
        clear hx
        go_wp2_with (simp only [add64_0 x cc x0 c0])
        go_roundw
        case rel =>
          refine ⟨k + 1, _, upd f' (o + k) ((x + cc) % 18446744073709551616), by omega, by go_num, rfl, by omega, by omega, hon.setCell _ _ _, hbl.set _ _, HL.out.upd (by omega), ?_, ?_⟩
          · intro j hj
            rw [upd_other _ _ _ _ (by omega)]
            exact HE.out j (by omega)
          · have := carry_step (y := 0) HV.out (HE.out _ (by omega)) rfl
            rw [HX.out] at this
            simpa [Hid] using this
        case measure => simp [intOf]; omega
    · have hkn : k = n := by omega
      subst hkn
      go_wp2
      refine bodyPost_end (v := .tuple #[]) (results_none rfl _ _ _) rfl ⟨rfl, hon, f', hbl, HL.out, HE.out, ?_⟩
      have hv := HV.out
      rw [Z0.out] at hv
      have h1 := vf_nonneg (HL.out.sh (o := o) (m := k) (by omega))
      have hp := pw_pos k
      have hr := HR.out
      by_cases hc : cc = 0
      · subst hc; simpa using hv
      · exfalso
        have : 1 * pw k ≤ cc * pw k := Int.mul_le_mul_of_nonneg_right (by omega) (Int.le_of_lt hp)
        omega

set_option maxHeartbeats 1000000 in
/-- addTo: the number in the first n limbs from o on grows by the number b. -/
theorem addTo_c (g o n cap N : Nat) (f : Nat → Int) (bo : Option Addr) (m cb : Nat) (h : Nat → Int) (w : World) (hb : Blk .u64 32 w g N f) (hf : Lm f N) (ho : o + n ≤ N) (hm : N ≤ 140737488355328)
    (hr : Rd .u64 w bo m h) (hh : Lm h m) (hoff : 0 < m → Off bo g) (hmn : m ≤ n) (hcap : n ≤ cap) (hcm : cap ≤ 140737488355328)
    (hroom : vf (sh f o) n + vf h m < pw n) :
    Calls Tryd.prog 41 #[.slice (some ⟨g, o, none⟩) n cap, .slice bo m cb] w fun e w' => e = .returned (.tuple #[]) ∧ Only g w w' ∧
      ∃ f', Blk .u64 32 w' g N f' ∧ Lm f' N ∧ (∀ j, j < o ∨ o + n ≤ j → f' j = f j) ∧ vf (sh f' o) n = vf (sh f o) n + vf h m := by
  have HR := hid hroom
  have HH := (show Hid (Lm h m) from hh)
  have HRd := (show Hid (Rd .u64 w bo m h) from hr)
  clear hroom hh hr
  go_enter Tryd.func41, Tryd.ntmps41
  go_wp2
  go_loopw [4, 8] (fun c t wr => ∃ (k : Nat) (cc : Int) (f' : Nat → Int), k ≤ m ∧ t = .int .i64 k ∧ c = .int .u64 cc ∧ 0 ≤ cc ∧ cc ≤ 1 ∧ Only g w wr ∧ Blk .u64 32 wr g N f' ∧ Hid (Lm f' N) ∧ Hid (∀ j, j < o ∨ o + k ≤ j → f' j = f j) ∧
      Hid (vf (sh f' o) k + cc * pw k = vf (sh f o) k + vf h k + 0)) (fun _ t _ => m - (intOf t).toNat)
  case atStart => exact ⟨0, 0, f, by omega, rfl, rfl, by omega, by omega, Only.refl _ _, hb, hf, fun _ _ => rfl, by simp [Hid, vf, pw]⟩
  case round =>
    obtain ⟨k, cc, f', hk, rfl, rfl, c0, c1, hon, hbl, HL, HE, HV⟩ := hrel
    by_cases hlt : k < m
    · have hr := HRd.out
      obtain ⟨b, ob, rfl⟩ := hr.at (by omega)
      obtain ⟨x, hx⟩ : ∃ x, f' (o + k) = x := ⟨_, rfl⟩
      obtain ⟨y, hy⟩ : ∃ y, h k = y := ⟨_, rfl⟩
      have hcell : wr.cell? ⟨g, o + k, none⟩ = some (.int .u64 x) := by rw [← hx]; exact hbl.cell (by omega)
      have hcelb : wr.cell? ⟨b, ob + k, none⟩ = some (.int .u64 y) := by rw [← hy]; exact (hr.only hon (hoff (by omega))).cell hlt
      have hfz := hbl.frozen (o + k)
      have hx01 := HL.out (o + k) (by omega)
      have hy01 := HH.out k hlt
      rw [hx] at hx01
      rw [hy] at hy01
      obtain ⟨x0, x1⟩ := hx01
      obtain ⟨y0, y1⟩ := hy01
      have HX := hid hx
      have HY := hid hy
      clear hx hy hr
      have hadd := fun w => add64 x y cc x0 y0 c0 c1 w
      go_wp2
      go_region
      all_goals
        go_wp2
        go_roundw
        case rel =>
          refine ⟨k + 1, _, upd f' (o + k) ((x + y + cc) % 18446744073709551616), by omega, by go_num, rfl, by omega, by omega, ?_, ?_, HL.out.upd (by omega), ?_, ?_⟩
          · exact (hon.setCell _ _ _).drew
          · exact (hbl.set _ _).drew
          · intro j hj
            rw [upd_other _ _ _ _ (by omega)]
            exact HE.out j (by omega)
          · have := carry_step (y := y) HV.out (HE.out _ (by omega)) HY.out
            rw [HX.out] at this
            exact this
        case measure => simp [intOf]; omega
    · have hkm : k = m := by omega
      subst hkm
      have hv := HV.out
      obtain ⟨d, rfl⟩ := Nat.exists_eq_add_of_le hmn
      have hsh : ∀ j, j < d → sh f' (o + k) j = sh f (o + k) j := fun j hj => HE.out _ (by omega)
      have hroom : vf (sh f' (o + k)) d + cc < pw d := by
        have h0 := vf_nonneg (HL.out.sh (o := o) (m := k) (by omega))
        have h1 := HR.out
        rw [vf_split, sh_sh, ← vf_congr hsh, pw_add] at h1
        have hp := pw_pos k
        apply Int.lt_of_mul_lt_mul_right (a := pw k) _ (Int.le_of_lt hp)
        rw [Int.add_mul, Int.mul_comm (pw d)]
        omega
      have hv2 := HV.out
      have HS := hid hsh
      clear hv hv2 hsh
      by_cases hd : d = 0
      · subst hd
        have hc0 : cc = 0 := by simp [vf, pw] at hroom; omega
        by_cases hne : k = cap
        all_goals
          go_wp2_with (go_at_call 60; refine (addWord_0 _ _ _ _).mono ?_; rintro e w' ⟨rfl, rfl⟩)
          refine bodyPost_end (v := .tuple #[]) (results_none rfl _ _ _) rfl ⟨rfl, hon, f', hbl, HL.out, fun j hj => HE.out j (by omega), ?_⟩
          have hv := HV.out
          rw [hc0] at hv
          simpa using hv
      · have hne : ¬ (k = cap) := by omega
        go_wp2_with fail
        refine (addWord_c g (o + k) d (cap - k) N f' cc wr hbl HL.out (by omega) hm c0 (by omega) hroom).mono ?_
        rintro e w' ⟨rfl, hon2, f2, hb2, hl2, he2, hv2⟩
        go_wp2
        refine bodyPost_end (v := .tuple #[]) (results_none rfl _ _ _) rfl ⟨rfl, hon.trans hon2, f2, hb2, hl2, fun j hj => (he2 j (by omega)).trans (HE.out j (by omega)), ?_⟩
        have hv := HV.out
        rw [vf_split, vf_split (sh f o), sh_sh, sh_sh, hv2, vf_congr HS.out, vf_congr (f := sh f2 o) (g := sh f' o) (fun j hj => he2 _ (by omega)), Int.add_mul]
        omega
end Go.Proofs.YtjjbmioicliipabDoor

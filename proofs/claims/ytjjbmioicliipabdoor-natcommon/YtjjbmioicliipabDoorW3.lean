/-
  Walks of package nat's difference in place (subFrom) and of the lists it makes: padded, clone, fromWord.
-/
import Derived.Test.YtjjbmioicliipabDoorW2
import Derived.Laws.CopyOwn
import Derived.OwnWalk
namespace Go.Proofs.YtjjbmioicliipabDoor
open Go.RowKit

theorem sub_limb {x y c : Int} (x0 : 0 ≤ x) (x1 : x < 18446744073709551616) (y0 : 0 ≤ y) (y1 : y < 18446744073709551616) (c0 : 0 ≤ c) (c1 : c ≤ 1) : (x - y - c) % 18446744073709551616 = x - y - c + 18446744073709551616 * bor x (y + c) := by
  unfold bor; split <;> omega

theorem borrow_step {f f' : Nat → Int} {o k : Nat} {cc y v c' : Int} {G : Nat → Int} (HV : vf (sh f' o) k - cc * pw k = vf (sh f o) k - vf G k) (hE : f' (o + k) = f (o + k)) (hy : G k = y) (hv : v = f' (o + k) - y - cc + 18446744073709551616 * c') :
    vf (sh (upd f' (o + k) v) o) (k + 1) - c' * pw (k + 1) = vf (sh f o) (k + 1) - vf G (k + 1) := by
  have e1 : vf (sh (upd f' (o + k) v) o) k = vf (sh f' o) k := vf_congr (fun j hj => upd_other _ _ _ _ (by omega))
  rw [vf_succ, vf_succ, vf_succ, e1, pw_succ, sh_at, sh_at, upd_same, hv, hE, hy]
  grind

/-- The list h, noughts behind its m limbs. -/
def ext (h : Nat → Int) (m : Nat) : Nat → Int := fun j => if j < m then h j else 0
theorem ext_in (h : Nat → Int) (m j : Nat) (hj : j < m) : ext h m j = h j := by simp [ext, hj]
theorem ext_out (h : Nat → Int) (m j : Nat) (hj : m ≤ j) : ext h m j = 0 := by simp [ext]; omega
theorem vf_ext_list (h : Nat → Int) (m n : Nat) (hn : m ≤ n) : vf (ext h m) n = vf h m := by
  rw [vf_ext hn (fun j h1 _ => ext_out h m j h1)]
  exact vf_congr (fun j hj => ext_in h m j hj)

set_option maxHeartbeats 1600000 in
/-- subFrom: the number in the first n limbs from o on falls by the number b. -/
theorem subFrom_c (g o n cap N : Nat) (f : Nat → Int) (bo : Option Addr) (m cb : Nat) (h : Nat → Int) (w : World) (hb : Blk .u64 32 w g N f) (hf : Lm f N) (ho : o + n ≤ N) (hm : N ≤ 140737488355328)
    (hr : Rd .u64 w bo m h) (hh : Lm h m) (hoff : 0 < m → Off bo g) (hmn : m ≤ n) (hcap : n ≤ cap) (hcm : cap ≤ 140737488355328)
    (hroom : vf h m ≤ vf (sh f o) n) :
    Calls Tryd.prog 43 #[.slice (some ⟨g, o, none⟩) n cap, .slice bo m cb] w fun e w' => e = .returned (.tuple #[]) ∧ Only g w w' ∧
      ∃ f', Blk .u64 32 w' g N f' ∧ Lm f' N ∧ (∀ j, j < o ∨ o + n ≤ j → f' j = f j) ∧ vf (sh f' o) n = vf (sh f o) n - vf h m := by
  have HR := hid hroom
  have HH := (show Hid (Lm h m) from hh)
  have HRd := (show Hid (Rd .u64 w bo m h) from hr)
  clear hroom hh hr
  go_enter Tryd.func43, Tryd.ntmps43
  go_wp2
  go_loopw [4, 10] (fun c t wr => ∃ (k : Nat) (cc : Int) (f' : Nat → Int), k ≤ m ∧ t = .int .i64 k ∧ c = .int .u64 cc ∧ 0 ≤ cc ∧ cc ≤ 1 ∧ Only g w wr ∧ Blk .u64 32 wr g N f' ∧ Hid (Lm f' N) ∧ Hid (∀ j, j < o ∨ o + k ≤ j → f' j = f j) ∧
      Hid (vf (sh f' o) k - cc * pw k = vf (sh f o) k - vf (ext h m) k)) (fun _ t _ => m - (intOf t).toNat)
  case atStart => exact ⟨0, 0, f, by omega, rfl, rfl, by omega, by omega, Only.refl _ _, hb, hf, fun _ _ => rfl, by simp [Hid, vf, pw]⟩
  case round =>
    obtain ⟨k, cc, f', hk, rfl, rfl, c0, c1, hon, hbl, HL, HE, HV⟩ := hrel
    by_cases hlt : k < m
    · have hr := HRd.out
      obtain ⟨b, ob, rfl⟩ := hr.at (by omega)
      obtain ⟨x, hx⟩ : ∃ x, f' (o + k) = x := ⟨_, rfl⟩
      obtain ⟨y, hy⟩ : ∃ y, h k = y := ⟨_, rfl⟩
      have hcell : wr.cell? ⟨g, o + k, none⟩ = some (.int .u64 x) := by rw [← hx]; exact hbl.cell (by omega)
      have hcelb : wr.cell? ⟨b, ob + k, none⟩ = some (.int .u64 y) := by rw [← hy]; exact (hr.only hon (hoff (by omega))).cell hlt
      have hfz := hbl.frozen (o + k)
      have hx01 := HL.out (o + k) (by omega)
      have hy01 := HH.out k hlt
      rw [hx] at hx01
      rw [hy] at hy01
      obtain ⟨x0, x1⟩ := hx01
      obtain ⟨y0, y1⟩ := hy01
      have HX := hid hx
      have HY := hid hy
      clear hx hy hr
      have hadd := fun w => sub64 x y cc x0 y0 y1 c0 c1 w
      go_wp2
      go_region
      all_goals
        go_wp2
        go_roundw
        case rel =>
          refine ⟨k + 1, _, upd f' (o + k) ((x - y - cc) % 18446744073709551616), by omega, by go_num, rfl, (bor_01 _ _).1, (bor_01 _ _).2, ?_, ?_, HL.out.upd (by omega), ?_, ?_⟩
          · exact (hon.setCell _ _ _).drew
          · exact (hbl.set _ _).drew
          · intro j hj
            rw [upd_other _ _ _ _ (by omega)]
            exact HE.out j (by omega)
          · exact borrow_step HV.out (HE.out _ (by omega)) ((ext_in h m k hlt).trans HY.out) (by rw [HX.out]; exact sub_limb x0 x1 y0 y1 c0 c1)
        case measure => simp [intOf]; omega
    · have hkm : k = m := by omega
      subst hkm
      obtain ⟨d, rfl⟩ := Nat.exists_eq_add_of_le hmn
      by_cases hd : d = 0
      · subst hd
        have hfin : vf (sh f' o) k = vf (sh f o) k - vf h k := by
          have hv := HV.out
          rw [vf_ext_list h k k (Nat.le_refl _)] at hv
          have h0 := vf_lt (HL.out.sh (o := o) (m := k) (by omega))
          have h1 := HR.out
          by_cases hc : cc = 0
          · subst hc; simpa using hv
          · obtain rfl : cc = 1 := by omega
            simp at h1; omega
        have HFin := hid hfin
        clear hfin
        by_cases hne : k = cap
        all_goals
          go_wp2
          refine wp_loop_rounds 1 ?_
          rw [rounds_succ]
          go_wp2
          exact bodyPost_end (v := .tuple #[]) (results_none rfl _ _ _) rfl ⟨rfl, hon, f', hbl, HL.out, fun j hj => HE.out j (by omega), HFin.out⟩
      · have hne : ¬ (k = cap) := by omega
        obtain ⟨w1, hw1⟩ : ∃ w1, wr = w1 := ⟨_, rfl⟩
        subst hw1
        go_wp2
        go_loopw [4, 36] (fun c t wr => ∃ (i : Nat) (cc : Int) (f' : Nat → Int), i ≤ d ∧ t = .int .i64 i ∧ c = .int .u64 cc ∧ 0 ≤ cc ∧ cc ≤ 1 ∧ Only g w wr ∧ Blk .u64 32 wr g N f' ∧ Hid (Lm f' N) ∧ Hid (∀ j, j < o ∨ o + (k + i) ≤ j → f' j = f j) ∧
          Hid (vf (sh f' o) (k + i) - cc * pw (k + i) = vf (sh f o) (k + i) - vf (ext h k) (k + i))) (fun _ t _ => d - (intOf t).toNat)
        case atStart => exact ⟨0, cc, f', by omega, rfl, rfl, c0, c1, hon, hbl, HL.out, HE.out, HV.out⟩
        case round =>
          clear HV HE HL hbl hon c0 c1
          obtain ⟨i, cc, f', hi, rfl, rfl, c0, c1, hon, hbl, HL, HE, HV⟩ := hrel
          by_cases hlt : i < d
          · by_cases hc : cc = 0
            · subst hc
              go_wp2
              refine bodyPost_ret (v := .tuple #[]) (results_none rfl _ _ _) rfl ⟨rfl, hon, f', hbl, HL.out, fun j hj => HE.out j (by omega), ?_⟩
              have hv := HV.out
              obtain ⟨e, rfl⟩ := Nat.exists_eq_add_of_le (show i ≤ d by omega)
              rw [vf_ext_list h k (k + i) (by omega)] at hv
              rw [← Nat.add_assoc, vf_split, vf_split (sh f o), sh_sh, sh_sh, vf_congr (f := sh f' (o + (k + i))) (g := sh f (o + (k + i))) (fun j hj => HE.out _ (by omega))]
              omega
            · have hc1 : (cc == 0) = false := by simp [hc]
              obtain ⟨x, hx⟩ : ∃ x, f' (o + k + i) = x := ⟨_, rfl⟩
              have hcell : wr.cell? ⟨g, o + k + i, none⟩ = some (.int .u64 x) := by rw [← hx]; exact hbl.cell (by omega)
              have hfz := hbl.frozen (o + k + i)
              have hx01 := HL.out (o + k + i) (by omega)
              rw [hx] at hx01
              obtain ⟨x0, x1⟩ := hx01
              have HX := hid hx
              clear hx
              go_wp2_with (simp only [sub64_0 x cc x0 c0 (Int.lt_of_le_of_lt c1 (by decide))])
              go_roundw
              case rel =>
                refine ⟨i + 1, _, upd f' (o + k + i) ((x - cc) % 18446744073709551616), by omega, by go_num, rfl, (bor_01 _ _).1, (bor_01 _ _).2, hon.setCell _ _ _, hbl.set _ _, HL.out.upd (by omega), ?_, ?_⟩
                · intro j hj
                  rw [upd_other _ _ _ _ (by omega)]
                  exact HE.out j (by omega)
                · have e1 := sub_limb (y := 0) x0 x1 (by omega) (by omega) c0 c1
                  have := borrow_step (y := 0) (v := (x - cc) % 18446744073709551616) (c' := bor x cc) HV.out (HE.out _ (by omega)) (ext_out h k _ (by omega)) (by rw [← Nat.add_assoc, HX.out]; simpa using e1)
                  rw [← Nat.add_assoc] at this
                  exact this
              case measure => simp [intOf]; omega
          · have hid : i = d := by omega
            subst hid
            go_wp2
            refine bodyPost_end (v := .tuple #[]) (results_none rfl _ _ _) rfl ⟨rfl, hon, f', hbl, HL.out, HE.out, ?_⟩
            have hv := HV.out
            rw [vf_ext_list h k (k + i) (by omega)] at hv
            have h0 := vf_lt (HL.out.sh (o := o) (m := k + i) (by omega))
            have h1 := HR.out
            by_cases hc : cc = 0
            · subst hc; simpa using hv
            · obtain rfl : cc = 1 := by omega
              omega
end Go.Proofs.YtjjbmioicliipabDoor

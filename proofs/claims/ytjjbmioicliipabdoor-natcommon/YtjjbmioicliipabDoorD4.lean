/-
  The walk of package nat's shrBits: a number by 2^n.
-/
import Derived.Test.YtjjbmioicliipabDoorS1
namespace Go.Proofs.YtjjbmioicliipabDoor
open Go.RowKit

/-- The numbers of one round of shrBits. -/
theorem shr_nums (x y s : Int) (x0 : 0 ≤ x) (x1 : x < 18446744073709551616) (s0 : 0 ≤ s) (s1 : s ≤ 63) (y0 : 0 ≤ y) (y1 : y < 2 ^ (64 - s).toNat) :
    ∃ L Z H, IntKind.u64.wrap (x * 2 ^ (64 - s).toNat) = L ∧ 0 ≤ L ∧ L < 18446744073709551616 ∧ bits BinOp.or .u64 y L = Z ∧ 0 ≤ Z ∧ Z < 18446744073709551616 ∧ x / 2 ^ s.toNat = H ∧ 0 ≤ H ∧ H < 18446744073709551616 ∧ Hid (H < 2 ^ (64 - s).toNat) ∧ Hid (Z = y + x % 2 ^ s.toNat * 2 ^ (64 - s).toNat) := by
  have hPQ : (2 : Int) ^ (64 - s).toNat * 2 ^ s.toNat = 18446744073709551616 := by rw [← Int.pow_add, show (64 - s).toNat + s.toNat = 64 by omega]; rfl
  have p0 : (0 : Int) < 2 ^ (64 - s).toNat := Int.pow_pos (by decide)
  have q0 : (0 : Int) < 2 ^ s.toNat := Int.pow_pos (by decide)
  obtain ⟨c1, c2, c3, c4, c5⟩ := limb_cut x0 x1 hPQ p0 q0
  have hP : (2 : Int) ^ (64 - s).toNat ≤ 18446744073709551616 := by
    rw [← hPQ]
    have := Int.mul_le_mul_of_nonneg_left (show (1 : Int) ≤ 2 ^ s.toNat by omega) (Int.le_of_lt p0)
    omega
  have hL : IntKind.u64.wrap (x * 2 ^ (64 - s).toNat) = x % 2 ^ s.toNat * 2 ^ (64 - s).toNat := by rw [IntKind.wrap_u64, c1]
  refine ⟨_, _, _, hL, c4, by omega, ?_, ?_, ?_, rfl, c2, by omega, c3, rfl⟩
  · rw [or_comm64 y, bits_join .u64 64 (by decide) wraps_u64 (64 - s).toNat _ _ c4 (Int.mul_emod_left _ _) (by omega) y0 y1 (by omega), Int.add_comm]
  · omega
  · omega

theorem shr_step {D a : Nat → Int} {j : Nat} {P Q x y r : Int} (hv : vf D (j + 1) * P + r = vf a (j + 1)) (hx : a (j + 1) = x) (hy : D j = y) (hPQ : Q * P = 18446744073709551616) :
    vf (upd (upd D (j + 1) (x / P)) j (y + x % P * Q)) (j + 1 + 1) * P + r = vf a (j + 1 + 1) := by
  have e1 : vf (upd (upd D (j + 1) (x / P)) j (y + x % P * Q)) j = vf D j := vf_congr (fun i hi => by rw [upd_other _ _ _ _ (by omega), upd_other _ _ _ _ (by omega)])
  have e2 : upd (upd D (j + 1) (x / P)) j (y + x % P * Q) (j + 1) = x / P := by rw [upd_other _ _ _ _ (by omega), upd_same]
  rw [vf_succ, vf_succ, e1, e2, upd_same, vf_succ a (j + 1), hx, ← hv, vf_succ D j, hy, pw_succ, ← hPQ]
  have e4 := Int.mul_ediv_add_emod x P
  have e5 : x * (Q * P * pw j) = (P * (x / P) + x % P) * (Q * P * pw j) := by rw [e4]
  rw [e5]
  grind
theorem shr_step0 {D a : Nat → Int} {P x : Int} (hx : a 0 = x) : vf (upd D 0 (x / P)) 1 * P + x % P = vf a 1 := by
  have e4 := Int.mul_ediv_add_emod x P
  simp only [vf, pw, upd_same, hx, Int.zero_add, Int.mul_one]
  have : x / P * P = P * (x / P) := Int.mul_comm _ _
  omega

set_option maxRecDepth 100000 in
set_option maxHeartbeats 1000000 in
theorem shrBits_c (ao : Option Addr) (n cap : Nat) (s : Int) (f : Nat → Int) (w : World) (hn : n ≤ 17592186044416) (s0 : 0 ≤ s) (s1 : s ≤ 63) (hr : Rd .u64 w ao n f) (hf : Lm f n) :
    Calls Tryd.prog 49 #[.slice ao n cap, .int .i64 s] w fun e w' => ∃ ao' m cap' f' r, e = .returned (.slice ao' m cap') ∧ Res n w w' ao' m cap' f' ∧ 0 ≤ r ∧ r < 2 ^ s.toNat ∧ vf f' m * 2 ^ s.toNat + r = vf f n := by
  have HF := hid hf
  have HRd := hid hr
  clear hf hr
  have P0 : Hid ((0 : Int) < 2 ^ s.toNat) := Int.pow_pos (by decide)
  have Q0 : Hid ((0 : Int) < 2 ^ (64 - s).toNat) := Int.pow_pos (by decide)
  go_enter Tryd.func49, Tryd.ntmps49
  go_wp2_with (at_make; refine wpList_make_blk .u64 w rfl (.tmp 8) (.tmp 8) 22 rfl 32 8 Tryd.underlying22 Tryd.infoU64 .i64 .i64 _ _ n rfl rfl rfl rfl (by omega) (by unfold maxLen; omega) ?_; intro w1 hb1 hbel1)
  go_loopw [12] (fun t wr => ∃ (k : Nat) (D : Nat → Int) (r : Int), k ≤ n ∧ t = .int .i64 k ∧ Below w.heap.size w wr ∧ Blk .u64 32 wr w.heap.size n D ∧ Hid (Lm D n) ∧ Hid (0 ≤ r ∧ r < 2 ^ s.toNat) ∧ Hid (∀ j, j + 1 = k → D j < 2 ^ (64 - s).toNat) ∧ Hid (vf D k * 2 ^ s.toNat + r = vf f k)) (fun t _ => n - (intOf t).toNat)
  case atStart => exact ⟨0, fun _ => 0, 0, by omega, rfl, hbel1, hb1, fun j hj => ⟨Int.le_refl 0, show (0 : Int) < 18446744073709551616 by decide⟩, ⟨Int.le_refl 0, P0.out⟩, fun j hj => by omega, by simp [Hid, vf]⟩
  case round =>
    clear hb1 hbel1
    obtain ⟨k, D, r, hkn, rfl, hbel, hbl, HL, HR, HT, HV⟩ := hrel
    by_cases hlt : k < n
    · have hr := HRd.out
      obtain ⟨b, ob, rfl⟩ := hr.at (by omega)
      have hbw : b < w.heap.size := World.block_lt_of_cell? w _ (hr.cell hlt)
      have hrr := hid (hr.below hbel (Nat.le_refl _))
      clear hr
      cases k with
      | zero =>
        obtain ⟨x, hx⟩ : ∃ x, f 0 = x := ⟨_, rfl⟩
        have hcelb : wr.cell? ⟨b, ob, none⟩ = some (.int .u64 x) := by rw [← hx]; exact hrr.out.cell hlt
        have hcell := hbl.cell (j := 0) hlt
        have hfz := hbl.frozen 0
        obtain ⟨x0, x1⟩ := HF.out 0 hlt
        rw [hx] at x0 x1
        obtain ⟨L, Z, H, eL, L0, L1, eZ, Z0, Z1, eH, H0, H1, HH, HZ2⟩ := shr_nums x 0 s x0 x1 s0 s1 (Int.le_refl _) Q0.out
        have HX := hid hx
        clear hx
        go_wp2
        go_roundw
        case rel =>
          refine ⟨1, _, x % 2 ^ s.toNat, by omega, by go_num, below_only hbel ((Only.refl _ _).setCell _ _ _) (Nat.le_refl _) hbel.size, hbl.set 0 H, HL.out.upd ⟨H0, H1⟩, ⟨Int.emod_nonneg _ (by have := P0.out; omega), Int.emod_lt_of_pos _ P0.out⟩, fun j hj => ?_, ?_⟩
          · obtain rfl : j = 0 := by omega
            rw [upd_same]; exact HH.out
          · rw [← eH]; exact shr_step0 HX.out
        case measure => simp [intOf]; omega
      | succ j =>
        obtain ⟨x, hx⟩ : ∃ x, f (j + 1) = x := ⟨_, rfl⟩
        obtain ⟨y, hy⟩ : ∃ y, D j = y := ⟨_, rfl⟩
        have hcelb : wr.cell? ⟨b, ob + (j + 1), none⟩ = some (.int .u64 x) := by rw [← hx]; exact hrr.out.cell hlt
        have hcell := hbl.cell (j := j + 1) hlt
        have hcely : wr.cell? ⟨w.heap.size, j, none⟩ = some (.int .u64 y) := by rw [← hy]; exact hbl.cell (by omega)
        have hfz := hbl.frozen (j + 1)
        have hfz2 := hbl.frozen j
        obtain ⟨x0, x1⟩ := HF.out (j + 1) hlt
        obtain ⟨y0, y1⟩ := HL.out j (by omega)
        rw [hx] at x0 x1
        rw [hy] at y0 y1
        obtain ⟨L, Z, H, eL, L0, L1, eZ, Z0, Z1, eH, H0, H1, HH, HZ2⟩ := shr_nums x y s x0 x1 s0 s1 y0 (by rw [← hy]; exact HT.out j rfl)
        have HX := hid hx
        have HY := hid hy
        clear hx hy
        have hcelb2 : ∀ (v : Value), (wr.setCell ⟨w.heap.size, j + 1, none⟩ v).cell? ⟨b, ob + (j + 1), none⟩ = some (.int .u64 x) := fun v => by
          rw [World.cell?_of_block (Below.heap_setCell _ _ _ _ (by simp; omega))]; exact hcelb
        go_wp2
        go_region
        all_goals
          go_wp2
          go_roundw
          case rel =>
            refine ⟨j + 1 + 1, _, r, by omega, by go_num, ?_, ((hbl.set (j + 1) H).set j Z), ?_, HR.out, fun i hi => ?_, ?_⟩
            · exact below_only hbel ((((Only.refl _ _).setCell _ _ _).setCell _ _ _).drew) (Nat.le_refl _) hbel.size
            · exact (HL.out.upd ⟨H0, H1⟩).upd ⟨Z0, Z1⟩
            · obtain rfl : i = j + 1 := by omega
              rw [upd_other _ _ _ _ (by omega), upd_same]; exact HH.out
            · have := shr_step (Q := 2 ^ (64 - s).toNat) HV.out HX.out HY.out (by rw [← Int.pow_add, show (64 - s).toNat + s.toNat = 64 by omega]; rfl)
              rw [← HZ2.out, eH] at this
              exact this
          case measure => simp [intOf]; omega
    · have hkn2 : k = n := by omega
      subst hkn2
      go_wp2_with fail
      refine (trim_res w.heap.size k k D w wr hbel (Nat.le_refl _) hbl (Nat.le_refl _) (by omega) HL.out).mono ?_
      rintro e w3 ⟨rfl, ao2, m, cap2, rfl, hres, hmn, hv⟩
      have HV3 := hid hv
      clear hv
      go_wp2
      go_ret
      exact ⟨ao2, m, cap2, D, r, rfl, hres, HR.out.1, HR.out.2, by rw [HV3.out, HV.out]⟩
end Go.Proofs.YtjjbmioicliipabDoor

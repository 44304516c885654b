/-
  Walks of package nat's shl and Shl: a number times 2^n.
-/
import Derived.Test.YtjjbmioicliipabDoorSm
import Derived.Test.YtjjbmioicliipabDoorDiv2
import Derived.Test.YtjjbmioicliipabDoorW5
namespace Go.Proofs.YtjjbmioicliipabDoor
open Go.RowKit

theorem or_comm64 (x y : Int) : bits BinOp.or .u64 x y = bits BinOp.or .u64 y x := by simp only [bits]; rw [BitVec.or_comm]

/-- The numbers of one round of shl. -/
theorem shl_nums (x y s : Int) (x0 : 0 ≤ x) (x1 : x < 18446744073709551616) (s0 : 0 ≤ s) (s1 : s ≤ 63) (y0 : 0 ≤ y) (y1 : y < 2 ^ s.toNat) :
    ∃ L Z H, IntKind.u64.wrap (x * 2 ^ s.toNat) = L ∧ 0 ≤ L ∧ L < 18446744073709551616 ∧ bits BinOp.or .u64 y L = Z ∧ 0 ≤ Z ∧ Z < 18446744073709551616 ∧ x / 2 ^ (64 - s).toNat = H ∧ 0 ≤ H ∧ H < 18446744073709551616 ∧ Hid (H < 2 ^ s.toNat) ∧ Hid (Z = y + x % 2 ^ (64 - s).toNat * 2 ^ s.toNat) := by
  have hPQ : (2 : Int) ^ s.toNat * 2 ^ (64 - s).toNat = 18446744073709551616 := by rw [← Int.pow_add, show s.toNat + (64 - s).toNat = 64 by omega]; rfl
  have p0 : (0 : Int) < 2 ^ s.toNat := Int.pow_pos (by decide)
  have q0 : (0 : Int) < 2 ^ (64 - s).toNat := Int.pow_pos (by decide)
  obtain ⟨c1, c2, c3, c4, c5⟩ := limb_cut x0 x1 hPQ p0 q0
  have hP : (2 : Int) ^ s.toNat ≤ 18446744073709551616 := by
    rw [← hPQ]
    have := Int.mul_le_mul_of_nonneg_left (show (1 : Int) ≤ 2 ^ (64 - s).toNat by omega) (Int.le_of_lt p0)
    omega
  have hL : IntKind.u64.wrap (x * 2 ^ s.toNat) = x % 2 ^ (64 - s).toNat * 2 ^ s.toNat := by rw [IntKind.wrap_u64, c1]
  refine ⟨_, _, _, hL, c4, by omega, ?_, ?_, ?_, rfl, c2, by omega, c3, rfl⟩
  · rw [or_comm64 y, bits_join .u64 64 (by decide) wraps_u64 s.toNat _ _ c4 (Int.mul_emod_left _ _) (by omega) y0 y1 (by omega), Int.add_comm]
  · omega
  · omega

set_option maxRecDepth 100000 in
set_option maxHeartbeats 1000000 in
/-- shl: a * 2^(64 * skip + s). -/
theorem shl_c (ao : Option Addr) (n cap skip : Nat) (z s : Int) (f : Nat → Int) (w : World) (hn : n ≤ 8796093022208) (hk : skip ≤ 1048576) (s0 : 0 ≤ s) (s1 : s ≤ 63) (hz : z = 64 * skip + s) (hr : Rd .u64 w ao n f) (hf : Lm f n) :
    Calls Tryd.prog 47 #[.slice ao n cap, .int .i64 z] w fun e w' => ∃ ao' m cap' f', e = .returned (.slice ao' m cap') ∧ Res (skip + n + 1) w w' ao' m cap' f' ∧ vf f' m = vf f n * 2 ^ s.toNat * pw skip := by
  have HF := hid hf
  have HRd := hid hr
  clear hf hr
  have z0 : 0 ≤ z := by omega
  have z1 : z ≤ 67108927 := by omega
  have h1 : z / 64 = (skip : Int) := by omega
  have h2 : z % 64 = s := by omega
  have h3 : Int.tdiv z 64 = (skip : Int) := by rw [Int.tdiv_eq_ediv_of_nonneg z0]; exact h1
  have h4 : Int.tmod z 64 = s := by rw [Int.tmod_eq_emod_of_nonneg z0]; exact h2
  clear hz
  go_enter Tryd.func47, Tryd.ntmps47
  go_wp2_with (at_make; refine wpList_make_blk .u64 w rfl (.tmp 17) (.tmp 17) 22 rfl 32 8 Tryd.underlying22 Tryd.infoU64 .i64 .i64 _ _ (skip + n + 1) rfl rfl (by omega) (by omega) (by omega) (by unfold maxLen; omega) ?_; intro w1 hb1 hbel1)
  go_loopw [21] (fun t wr => ∃ (k : Nat) (F : Nat → Int), k ≤ n ∧ t = .int .i64 k ∧ Below w.heap.size w wr ∧ Blk .u64 32 wr w.heap.size (skip + n + 1) F ∧ Hid (Lm F (skip + n + 1)) ∧ Hid (∀ j, j < skip ∨ skip + k < j → F j = 0) ∧ Hid (F (skip + k) < 2 ^ s.toNat) ∧ Hid (vf (sh F skip) (k + 1) = vf f k * 2 ^ s.toNat)) (fun t _ => n - (intOf t).toNat)
  case atStart => exact ⟨0, fun _ => 0, by omega, rfl, hbel1, hb1, fun j hj => ⟨Int.le_refl 0, show (0 : Int) < 18446744073709551616 by decide⟩, fun j hj => rfl, Int.pow_pos (by decide), by simp [Hid, vf, sh]⟩
  case round =>
    clear hb1 hbel1
    obtain ⟨k, F, hkn, rfl, hbel, hbl, HL, HZ, HT, HV⟩ := hrel
    by_cases hlt : k < n
    · have hr := HRd.out
      obtain ⟨b, ob, rfl⟩ := hr.at (by omega)
      obtain ⟨y, hy⟩ : ∃ y, F (skip + k) = y := ⟨_, rfl⟩
      obtain ⟨x, hx⟩ : ∃ x, f k = x := ⟨_, rfl⟩
      have hcell : wr.cell? ⟨w.heap.size, skip + k, none⟩ = some (.int .u64 y) := by rw [← hy]; exact hbl.cell (by omega)
      have hcelb : wr.cell? ⟨b, ob + k, none⟩ = some (.int .u64 x) := by rw [← hx]; exact (hr.below hbel (Nat.le_refl _)).cell hlt
      have hbw : b < w.heap.size := World.block_lt_of_cell? w _ (hr.cell hlt)
      have hfz := hbl.frozen (skip + k)
      have hfz2 := hbl.frozen (skip + k + 1)
      obtain ⟨y0, y1⟩ := HL.out (skip + k) (by omega)
      obtain ⟨x0, x1⟩ := HF.out k hlt
      rw [hx] at x0 x1
      rw [hy] at y0 y1
      obtain ⟨L, Z, H, eL, L0, L1, eZ, Z0, Z1, eH, H0, H1, HH, HZ2⟩ := shl_nums x y s x0 x1 s0 s1 y0 (by rw [← hy]; exact HT.out)
      have HX := hid hx
      have HY := hid hy
      clear hx hy hr
      have hcelb2 : ∀ (v : Value), (wr.setCell ⟨w.heap.size, skip + k, none⟩ v).cell? ⟨b, ob + k, none⟩ = some (.int .u64 x) := fun v => by
        rw [World.cell?_of_block (Below.heap_setCell _ _ _ _ (by simp; omega))]; exact hcelb
      have hcelb3 : ∀ (v : Value), (wr.setCell ⟨w.heap.size, skip + k, none⟩ v).drew.cell? ⟨b, ob + k, none⟩ = some (.int .u64 x) := hcelb2
      have hcell2 : wr.cell? ⟨w.heap.size, skip + k + 1, none⟩ = some (.int .u64 0) := by rw [← HZ.out (skip + k + 1) (by omega)]; exact hbl.cell (by omega)
      go_wp2
      go_region
      all_goals
        go_wp2
        go_roundw
        case rel =>
          refine ⟨k + 1, _, by omega, by go_num, ?_, ((hbl.set (skip + k) Z).set (skip + k + 1) H), ?_, ?_, ?_, ?_⟩
          · exact below_only hbel ((((Only.refl _ _).setCell _ _ _).setCell _ _ _).drew) (Nat.le_refl _) hbel.size
          · exact (HL.out.upd ⟨Z0, Z1⟩).upd ⟨H0, H1⟩
          · intro j hj
            rw [upd_other _ _ _ _ (by omega), upd_other _ _ _ _ (by omega)]
            exact HZ.out j (by omega)
          · show _ < _
            rw [← Nat.add_assoc, upd_same]; exact HH.out
          · have := shl_step (Q := 2 ^ (64 - s).toNat) HV.out HX.out HY.out (by rw [← Int.pow_add, show s.toNat + (64 - s).toNat = 64 by omega]; rfl)
            rw [← HZ2.out, eH] at this
            exact this
        case measure => simp [intOf]; omega
    · have hkn2 : k = n := by omega
      subst hkn2
      go_wp2_with fail
      refine (trim_res w.heap.size (skip + k + 1) (skip + k + 1) F w wr hbel (Nat.le_refl _) hbl (Nat.le_refl _) (by omega) HL.out).mono ?_
      rintro e w3 ⟨rfl, ao2, m, cap2, rfl, hres, hmn, hv⟩
      have HV3 := hid hv
      clear hv
      go_wp2
      go_ret
      refine ⟨ao2, m, cap2, F, rfl, hres, ?_⟩
      rw [HV3.out, Nat.add_assoc, vf_ahead (fun j hj => HZ.out j (.inl hj)), HV.out]
end Go.Proofs.YtjjbmioicliipabDoor

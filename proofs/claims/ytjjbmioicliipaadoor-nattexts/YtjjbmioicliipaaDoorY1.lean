/-
  Walks of the document's reference for nat: Word, short.
-/
import Derived.Test.YtjjbmioicliipaaDoorR3
import Derived.Test.YtjjbmioicliipaaDoorW6
namespace Go.Proofs.YtjjbmioicliipaaDoor
open Go.RowKit

set_option maxRecDepth 100000 in
set_option maxHeartbeats 400000 in
/-- Word: the digits of a number below 2^32. -/
theorem word_c (x : Int) (w : World) (x0 : 0 ≤ x) (x1 : x < 4294967296) :
    Calls Tryd.prog 79 #[.int .u64 x] w fun e w' => ∃ k, e = .returned (.slice (some ⟨w.heap.size, 0, none⟩) k 2) ∧ Below w.heap.size w w' ∧ k ≤ 1 ∧ Rd .u64 w' (some ⟨w.heap.size, 0, none⟩) k (fun _ => x) ∧ (k = 0 → x = 0) ∧ Fm (fun _ => x) k := by
  have hr := rd_new2 w 46 x
  have m1 : x % 4294967296 = x := by omega
  have m2 : x / 4294967296 = 0 := by omega
  rw [m1, m2] at hr
  have HR := hid hr
  clear hr
  go_enter Tryd.func79, Tryd.ntmps79
  go_wp2_with fail
  refine (low_c (some ⟨w.heap.size, 0, none⟩) 2 2 (two32 x) _ (by omega) (by omega) HR.out (fun h => by cases h)).mono ?_
  rintro e w1 ⟨rfl, k, hk, hz, hfm, rfl⟩
  have hk1 : k ≤ 1 := by
    rcases hfm with h | h
    · omega
    · apply Nat.le_of_not_lt; intro h2
      obtain rfl : k = 2 := by omega
      exact h (by simp [two32, m2])
  have hx0 : k = 0 → x = 0 := fun h => by
    have := hz 0 (by omega) (by omega)
    simp [two32, m1] at this
    exact this
  have hr1 : ∀ j, j < k → two32 x j = x := by
    intro j hj
    obtain rfl : j = 0 := by omega
    simp [two32, m1]
  have hf1 : Fm (fun _ => x) k := by
    rcases hfm with h | h
    · exact .inl h
    · by_cases h0 : k = 0
      · exact .inl h0
      · right; rw [hr1 _ (by omega)] at h; exact h
  have HR1 := hid hr1; have HX0 := hid hx0; have HF1 := hid hf1
  clear hz hfm hr1 hx0 hf1
  go_wp2
  go_ret
  exact ⟨k, rfl, (Below.refl _ _).alloc (Nat.le_refl _) _, hk1, (HR.out.take hk).congr HR1.out, HX0.out, HF1.out⟩

theorem vd_cons (f : Nat → Int) (m i : Nat) : vd (sh f m) (i + 1) = f m + 4294967296 * vd (sh f (m + 1)) i := by
  rw [Nat.add_comm i 1, vd_split (sh f m) 1 i, sh_sh]
  have e1 : vd (sh f m) 1 = f m := by simp [vd, pd, sh]
  have e2 : pd 1 = 4294967296 := by simp [pd]
  rw [e1, e2]; omega
theorem short_step {f q q' : Nat → Int} {k i : Nat} {r wd : Int} (HV : vd (sh f (k + 1)) i = vd (sh q (k + 1)) i * wd + r) (hq : ∀ j, k < j → q' j = q j) (hk : q' k = (r * 4294967296 + f k) / wd) :
    vd (sh f k) (i + 1) = vd (sh q' k) (i + 1) * wd + (r * 4294967296 + f k) % wd := by
  have e1 : vd (sh q' (k + 1)) i = vd (sh q (k + 1)) i := vd_congr (fun j hj => hq _ (by omega))
  rw [vd_cons, vd_cons, e1, HV, hk]
  have e2 := Int.mul_ediv_add_emod (r * 4294967296 + f k) wd
  generalize (r * 4294967296 + f k) / wd = Q at *
  generalize (r * 4294967296 + f k) % wd = R at *
  grind

set_option maxRecDepth 100000 in
set_option maxHeartbeats 1000000 in
theorem short_c (ao : Option Addr) (n cap : Nat) (f : Nat → Int) (wd : Int) (w : World) (hn : n ≤ 1048576) (hr : Rd .u64 w ao n f) (hf : Dg f n) (w0 : 0 < wd) (w1 : wd < 4294967296) :
    Calls Tryd.prog 60 #[.slice ao n cap, .int .u64 wd] w fun e w' => ∃ a1 k1 c1 q a2 k2 c2 R, e = .returned (.tuple #[.slice a1 k1 c1, .slice a2 k2 c2]) ∧ Below w.heap.size w w' ∧ k1 ≤ n ∧ Rd .u64 w' a1 k1 q ∧ Dg q k1 ∧ Fm q k1 ∧ k2 ≤ 1 ∧ Rd .u64 w' a2 k2 (fun _ => R) ∧ (k2 = 0 → R = 0) ∧ Fm (fun _ => R) k2 ∧ 0 ≤ R ∧ R < wd ∧ vd f n = vd q k1 * wd + R := by
  have HR := hid hr
  have HF := hid hf
  clear hr hf
  go_enter Tryd.func60, Tryd.ntmps60
  go_wp2_with (at_make; refine wpList_make_blk .u64 w rfl (.tmp 10) (.tmp 10) 22 rfl 46 8 Tryd.underlying22 Tryd.infoU64 .i64 .i64 n n n rfl rfl rfl rfl (by omega) (by unfold maxLen; omega) ?_; intro wa hba hbela)
  go_loopw [7, 8] (fun c t wr => ∃ (i : Nat) (r : Int) (Q : Nat → Int), i ≤ n ∧ t = .int .i64 ((i : Int) - 1) ∧ c = .int .u64 r ∧ 0 ≤ r ∧ r < wd ∧ Below w.heap.size w wr ∧ Blk .u64 46 wr w.heap.size n Q ∧ Hid (Dg Q n) ∧ Hid (vd (sh f i) (n - i) = vd (sh Q i) (n - i) * wd + r)) (fun _ t _ => (intOf t + 1).toNat)
  case atStart => exact ⟨n, 0, fun _ => 0, by omega, rfl, rfl, by omega, w0, hbela, hba, fun j _ => ⟨Int.le_refl 0, show (0 : Int) < 4294967296 by decide⟩, by simp [Hid, vd]⟩
  case round =>
    clear hba hbela
    obtain ⟨i, r, Q, hi, rfl, rfl, r0, r1, hbel, hbl, HL, HV⟩ := hrel
    cases i with
    | zero =>
      go_wp2_with fail
      refine (low_c (some ⟨w.heap.size, 0, none⟩) n n Q wr (Nat.le_refl _) (by omega) (hbl.rd0 (Nat.le_refl _)) (fun h => by cases h)).mono ?_
      rintro e w2 ⟨rfl, k1, hk1, hz, hfm, rfl⟩
      have HZ := hid hz; have HFM := hid hfm
      clear hz hfm
      go_wp2_with fail
      refine (word_c r _ r0 (by omega)).mono ?_
      rintro e w3 ⟨k2, rfl, hbel3, hk2, hr2, hx2, hf2⟩
      have HB3 := hid hbel3; have HR2 := hid hr2; have HX2 := hid hx2; have HF2 := hid hf2
      clear hbel3 hr2 hx2 hf2
      go_wp2
      go_ret2
      have v := HV.out
      rw [sh_zero, sh_zero, Nat.sub_zero] at v
      refine ⟨_, k1, n, Q, _, k2, 2, r, rfl, hbel.trans (HB3.out.mono hbel.size), hk1, ((hbl.rd0 (Nat.le_refl _)).take hk1).below HB3.out (Nat.le_refl _), HL.out.mono hk1, HFM.out, hk2, HR2.out, HX2.out, HF2.out, r0, r1, ?_⟩
      rw [trim_vald hk1 HZ.out]; exact v
    | succ k =>
      have hr := HR.out
      obtain ⟨b, o, rfl⟩ := hr.at (by omega)
      obtain ⟨x, hx⟩ : ∃ x, f k = x := ⟨_, rfl⟩
      have hcell : wr.cell? ⟨b, o + k, none⟩ = some (.int .u64 x) := by rw [← hx]; exact (hr.below hbel (Nat.le_refl _)).cell (by omega)
      have hcelq := hbl.cell (j := k) (by omega)
      have hfz := hbl.frozen k
      obtain ⟨x0, x1⟩ := HF.out k (by omega)
      rw [hx] at x0 x1
      obtain ⟨q, hq⟩ : ∃ q, (r * 4294967296 + x) / wd = q := ⟨_, rfl⟩
      obtain ⟨R, hR⟩ : ∃ R, (r * 4294967296 + x) % wd = R := ⟨_, rfl⟩
      have hR0 : 0 ≤ R := by rw [← hR]; exact Int.emod_nonneg _ (by omega)
      have hR1 : R < wd := by rw [← hR]; exact Int.emod_lt_of_pos _ w0
      have hq0 : 0 ≤ q := by rw [← hq]; exact Int.ediv_nonneg (by omega) (by omega)
      have hq1 : q < 4294967296 := by
        rw [← hq]
        apply Int.ediv_lt_of_lt_mul w0
        omega
      have hst := short_step (q' := upd Q k q) (k := k) (i := n - (k + 1)) HV.out (fun j hj => upd_other _ _ _ _ (by omega)) (by rw [upd_same, hx, hq])
      rw [hx, hR] at hst
      have HX := hid hx; have HSt := hid hst
      clear hx hst hr
      have hwd : ¬ (wd = 0) := by omega
      have hwdb : (wd == 0) = false := by simp; omega
      go_wp2
      go_roundw
      case rel =>
        refine ⟨k, R, upd Q k q, by omega, by go_num, (by rw [hR]), hR0, hR1, below_only hbel ((Only.refl _ _).setCell _ _ _) (Nat.le_refl _) hbel.size, hbl.set _ _, HL.out.upd ⟨hq0, hq1⟩, ?_⟩
        have e : n - k = n - (k + 1) + 1 := by omega
        show _ = _
        rw [e]; exact HSt.out
      case measure => simp [intOf]
end Go.Proofs.YtjjbmioicliipaaDoor

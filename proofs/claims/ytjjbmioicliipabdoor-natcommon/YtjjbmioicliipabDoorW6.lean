/-
  Walks of package nat's quotients by one limb, and of the greatest common divisor of two limbs.
-/
import Derived.Test.YtjjbmioicliipabDoorW5
import Derived.Test.YtjjbmioicliipabDoorDiv2
namespace Go.Proofs.YtjjbmioicliipabDoor
open Go.RowKit

theorem lm_zero (n : Nat) : Lm (fun _ => 0) n := fun _ _ => ⟨Int.le_refl 0, (by decide : (0 : Int) < 18446744073709551616)⟩
theorem vf_cons (f : Nat → Int) (m i : Nat) : vf (sh f m) (i + 1) = f m + 18446744073709551616 * vf (sh f (m + 1)) i := by
  rw [Nat.add_comm i 1, vf_split (sh f m) 1 i, sh_sh]
  have e1 : vf (sh f m) 1 = f m := by simp [vf, pw, sh]
  have e2 : pw 1 = 18446744073709551616 := by simp [pw]
  rw [e1, e2]; omega

theorem divw_step {f q q' : Nat → Int} {k i : Nat} {r wd : Int} (HV : vf (sh f (k + 1)) i = vf (sh q (k + 1)) i * wd + r) (hq : ∀ j, k < j → q' j = q j) (hk : q' k = (r * 18446744073709551616 + f k) / wd) :
    vf (sh f k) (i + 1) = vf (sh q' k) (i + 1) * wd + (r * 18446744073709551616 + f k) % wd := by
  have e1 : vf (sh q' (k + 1)) i = vf (sh q (k + 1)) i := vf_congr (fun j hj => hq _ (by omega))
  rw [vf_cons, vf_cons, e1, HV, hk]
  have e2 := Int.mul_ediv_add_emod (r * 18446744073709551616 + f k) wd
  generalize (r * 18446744073709551616 + f k) / wd = Q at *
  generalize (r * 18446744073709551616 + f k) % wd = R at *
  grind

set_option maxRecDepth 100000 in
set_option maxHeartbeats 1000000 in
theorem divWord_c (ao : Option Addr) (n cap : Nat) (f : Nat → Int) (wd : Int) (w : World) (hn : n ≤ 17592186044416) (hr : Rd .u64 w ao n f) (hf : Lm f n) (w0 : 0 < wd) (w1 : wd < 18446744073709551616) :
    Calls Tryd.prog 31 #[.slice ao n cap, .int .u64 wd] w fun e w' => ∃ ao' k cap' q r, e = .returned (.tuple #[.slice ao' k cap', .int .u64 r]) ∧ Res n w w' ao' k cap' q ∧ 0 ≤ r ∧ r < wd ∧ vf f n = vf q k * wd + r := by
  have HR := hid hr
  have HF := hid hf
  clear hr hf
  go_enter Tryd.func31, Tryd.ntmps31
  go_wp2_with (at_make; refine wpList_make_blk .u64 w rfl (.tmp 11) (.tmp 11) 22 rfl 32 8 Tryd.underlying22 Tryd.infoU64 .i64 .i64 n n n rfl rfl rfl rfl (by omega) (by unfold maxLen; omega) ?_; intro wa hba hbela)
  go_loopw [7, 15] (fun c t wr => ∃ (i : Nat) (r : Int) (q : Nat → Int), i ≤ n ∧ t = .int .i64 i ∧ c = .int .u64 r ∧ 0 ≤ r ∧ r < wd ∧ Below w.heap.size w wr ∧ Blk .u64 32 wr w.heap.size n q ∧ Hid (Lm q n) ∧ Hid (vf (sh f (n - i)) i = vf (sh q (n - i)) i * wd + r)) (fun _ t _ => n - (intOf t).toNat)
  case atStart => exact ⟨0, 0, fun _ => 0, by omega, rfl, rfl, by omega, w0, hbela, hba, lm_zero n, by simp [Hid, vf]⟩
  case round =>
    clear hba hbela
    obtain ⟨i, r, q, hi, rfl, rfl, r0, r1, hbel, hbl, HL, HV⟩ := hrel
    by_cases hlt : i < n
    · have hr := HR.out
      obtain ⟨b, o, rfl⟩ := hr.at (by omega)
      obtain ⟨k, hk⟩ : ∃ k, k = n - 1 - i := ⟨_, rfl⟩
      have hk1 : n - i = k + 1 := by omega
      have hk2 : k < n := by omega
      obtain ⟨x, hx⟩ : ∃ x, f k = x := ⟨_, rfl⟩
      have hcell : wr.cell? ⟨b, o + (n - 1 - i), none⟩ = some (.int .u64 x) := by rw [← hk, ← hx]; exact (hr.below hbel (Nat.le_refl _)).cell hk2
      have hcelq := hbl.cell (j := n - 1 - i) (by omega)
      have hfz := hbl.frozen (n - 1 - i)
      obtain ⟨x0, x1⟩ := HF.out k hk2
      rw [hx] at x0 x1
      have HX := hid hx
      have HK := hid hk
      have HK1 := hid hk1
      clear hx hk hk1 hr
      obtain ⟨Q, hQ⟩ : ∃ Q, (r * 18446744073709551616 + x) / wd = Q := ⟨_, rfl⟩
      obtain ⟨R, hR⟩ : ∃ R, (r * 18446744073709551616 + x) % wd = R := ⟨_, rfl⟩
      have c1 := fun w => div64_c r x wd w r0 r1 w1 x0 x1
      have hR0 : 0 ≤ R := by rw [← hR]; exact Int.emod_nonneg _ (by omega)
      have hR1 : R < wd := by rw [← hR]; exact Int.emod_lt_of_pos _ w0
      have hQ0 : 0 ≤ Q := by rw [← hQ]; exact Int.ediv_nonneg (by omega) (by omega)
      have hQ1 : Q < 18446744073709551616 := by
        rw [← hQ]
        apply Int.ediv_lt_of_lt_mul w0
        have : (r + 1) * 18446744073709551616 ≤ wd * 18446744073709551616 := Int.mul_le_mul_of_nonneg_right (by omega) (by decide)
        rw [Int.mul_comm 18446744073709551616 wd]
        omega
      rw [hQ, hR] at c1
      have C1 := hid c1
      have HQ := hid hQ
      have HRR := hid hR
      clear c1 hQ hR
      go_wp2_with fail
      refine (C1.out _).mono ?_
      rintro e wx ⟨rfl, nq, rfl⟩
      go_wp2
      go_roundw
      case rel =>
        refine ⟨i + 1, R, upd q (n - 1 - i) Q, by omega, by go_num, rfl, hR0, hR1, ?_, ?_, HL.out.upd ⟨hQ0, hQ1⟩, ?_⟩
        · exact (below_drewN hbel nq).setCell (Nat.le_refl _) _
        · exact Blk.set (show Blk .u64 32 (wr.drewN nq) w.heap.size n q from hbl) _ _
        · have e1 : n - (i + 1) = k := by have := HK1.out; omega
          have hv := HV.out
          rw [HK1.out] at hv
          have := divw_step (q' := upd q k Q) hv (fun j hj => upd_other _ _ _ _ (by omega)) (by rw [upd_same, HX.out, HQ.out])
          rw [HX.out, HRR.out] at this
          rw [e1, ← HK.out]
          exact this
      case measure => simp [intOf]; omega
    · have hin : i = n := by omega
      subst hin
      have hv : vf f i = vf q i * wd + r := by have := HV.out; rwa [Nat.sub_self, sh_zero, sh_zero] at this
      have HV2 := hid hv
      clear hv
      go_wp2_with fail
      refine (trim_res w.heap.size i i q w wr hbel (Nat.le_refl _) hbl (Nat.le_refl _) (by omega) HL.out).mono ?_
      rintro e w3 ⟨rfl, ao', k, cap', rfl, hres, hkn, hvt⟩
      have HVT := hid hvt
      clear hvt
      go_wp2
      go_ret2
      exact ⟨ao', k, cap', q, r, rfl, hres, r0, r1, by rw [HVT.out]; exact HV2.out⟩

theorem modw_step {f : Nat → Int} {k i : Nat} {r wd : Int} (HV : vf (sh f (k + 1)) i % wd = r) : vf (sh f k) (i + 1) % wd = (r * 18446744073709551616 + f k) % wd := by
  rw [vf_cons, ← HV, Int.add_comm (f k), Int.mul_comm]
  simp [Int.add_emod, Int.mul_emod]

set_option maxHeartbeats 1000000 in
theorem modWord_c (ao : Option Addr) (n cap : Nat) (f : Nat → Int) (wd : Int) (w : World) (hn : n ≤ 17592186044416) (hr : Rd .u64 w ao n f) (hf : Lm f n) (w0 : 0 < wd) (w1 : wd < 18446744073709551616) :
    Calls Tryd.prog 30 #[.slice ao n cap, .int .u64 wd] w fun e w' => e = .returned (.int .u64 (vf f n % wd)) ∧ ∃ q, w' = w.drewN q := by
  have HR := hid hr
  have HF := hid hf
  clear hr hf
  go_enter Tryd.func30, Tryd.ntmps30
  go_wp2
  go_loopw [5, 9] (fun c t wr => ∃ (i : Nat) (r : Int), i ≤ n ∧ t = .int .i64 i ∧ c = .int .u64 r ∧ 0 ≤ r ∧ r < wd ∧ (∃ q, wr = w.drewN q) ∧ Hid (vf (sh f (n - i)) i % wd = r)) (fun _ t _ => n - (intOf t).toNat)
  case atStart => exact ⟨0, 0, by omega, rfl, rfl, by omega, w0, ⟨0, rfl⟩, by simp [Hid, vf]⟩
  case round =>
    obtain ⟨i, r, hi, rfl, rfl, r0, r1, ⟨q, rfl⟩, HV⟩ := hrel
    by_cases hlt : i < n
    · have hr := HR.out
      obtain ⟨b, o, rfl⟩ := hr.at (by omega)
      obtain ⟨k, hk⟩ : ∃ k, k = n - 1 - i := ⟨_, rfl⟩
      have hk1 : n - i = k + 1 := by omega
      have hk2 : k < n := by omega
      obtain ⟨x, hx⟩ : ∃ x, f k = x := ⟨_, rfl⟩
      have hcell : w.cell? ⟨b, o + (n - 1 - i), none⟩ = some (.int .u64 x) := by rw [← hk, ← hx]; exact hr.cell hk2
      obtain ⟨x0, x1⟩ := HF.out k hk2
      rw [hx] at x0 x1
      have HX := hid hx
      have HK := hid hk
      have HK1 := hid hk1
      clear hx hk hk1 hr
      obtain ⟨R, hR⟩ : ∃ R, (r * 18446744073709551616 + x) % wd = R := ⟨_, rfl⟩
      have c1 := fun w => div64_c r x wd w r0 r1 w1 x0 x1
      have hR0 : 0 ≤ R := by rw [← hR]; exact Int.emod_nonneg _ (by omega)
      have hR1 : R < wd := by rw [← hR]; exact Int.emod_lt_of_pos _ w0
      rw [hR] at c1
      have C1 := hid c1
      have HRR := hid hR
      clear c1 hR
      go_wp2_with fail
      refine (C1.out _).mono ?_
      rintro e wx ⟨rfl, nq, rfl⟩
      go_wp2
      go_roundw
      case rel =>
        refine ⟨i + 1, R, by omega, by go_num, rfl, hR0, hR1, ⟨_, by (repeat rw [World.drewN_drewN]) <;> rfl⟩, ?_⟩
        have e1 : n - (i + 1) = k := by have := HK1.out; omega
        have hv := HV.out
        rw [HK1.out] at hv
        have := modw_step (k := k) (i := i) (r := r) hv
        rw [HX.out, HRR.out] at this
        rw [e1]
        exact this
      case measure => simp [intOf]; omega
    · have hin : i = n := by omega
      subst hin
      have hv : vf f i % wd = r := by have := HV.out; rwa [Nat.sub_self, sh_zero] at this
      have HV2 := hid hv
      clear hv
      go_wp2
      go_ret
      exact ⟨by rw [HV2.out]; rfl, q, rfl⟩

set_option maxHeartbeats 1000000 in
theorem gcdWord_c (a b : Nat) (w : World) (ha : a < 18446744073709551616) (hb : b < 18446744073709551616) :
    Calls Tryd.prog 29 #[.int .u64 a, .int .u64 b] w fun e w' => e = .returned (.int .u64 (Nat.gcd a b : Nat)) ∧ ∃ q, w' = w.drewN q := by
  go_enter Tryd.func29, Tryd.ntmps29
  go_wp2
  go_loopw [0, 1] (fun c d wr => ∃ (x y : Nat), c = .int .u64 x ∧ d = .int .u64 y ∧ x < 18446744073709551616 ∧ y < 18446744073709551616 ∧ (∃ q, wr = w.drewN q) ∧ Hid (Nat.gcd x y = Nat.gcd a b)) (fun _ d _ => (intOf d).toNat)
  case atStart => exact ⟨a, b, rfl, rfl, ha, hb, ⟨0, rfl⟩, rfl⟩
  case round =>
    obtain ⟨x, y, rfl, rfl, hx, hy, ⟨q, rfl⟩, HV⟩ := hrel
    by_cases h0 : y = 0
    · subst h0
      have hg : x = Nat.gcd a b := by have := HV.out; rwa [Nat.gcd_zero_right] at this
      have HG := hid hg
      clear hg
      go_wp2
      go_ret
      exact ⟨by rw [← HG.out]; rfl, q, rfl⟩
    · have h1 : ((y : Int) != 0) = true := by simp; omega
      have h2 : (0 : Int) < y := by omega
      have h3 : (x : Int) % y < y := Int.emod_lt_of_pos _ h2
      have h4 : 0 ≤ (x : Int) % y := Int.emod_nonneg _ (by omega)
      have h5 : x % y < y := Nat.mod_lt _ (by omega)
      have H5 := hid h5
      clear h5
      go_wp2
      go_quiet (fail)
      go_wp2
      go_roundw
      case rel => exact ⟨y, x % y, rfl, by go_num, hy, by have := H5.out; omega, ⟨_, by (repeat rw [World.drewN_drewN]) <;> rfl⟩, by have := HV.out; rw [Nat.gcd_comm y, ← Nat.gcd_rec y x, Nat.gcd_comm]; exact this⟩
      case measure => simp [intOf]; exact H5.out
end Go.Proofs.YtjjbmioicliipabDoor

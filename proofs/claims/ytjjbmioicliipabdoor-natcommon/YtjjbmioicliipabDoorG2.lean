/-
  Walks of package nat's greatest common divisor: bitsFrom, highBits.
-/
import Derived.Test.YtjjbmioicliipabDoorG1
import Derived.Test.YtjjbmioicliipabDoorT2
import Derived.Test.YtjjbmioicliipabDoorD5
import Derived.BigQuiet
namespace Go.Proofs.YtjjbmioicliipabDoor
open Go.RowKit

/-- The bits of two limbs, put together. -/
theorem bits_two (h l s : Int) (h0 : 0 ≤ h) (l0 : 0 ≤ l) (l1 : l < 18446744073709551616) (s0 : 0 ≤ s) (s1 : s ≤ 63) (hh : h < 2 ^ (64 - s).toNat) :
    ∃ H D Z, IntKind.u64.wrap (h * 2 ^ s.toNat) = H ∧ 0 ≤ H ∧ H < 18446744073709551616 ∧ l / 2 ^ (64 - s).toNat = D ∧ 0 ≤ D ∧ D < 18446744073709551616 ∧ bits BinOp.or .u64 H D = Z ∧ 0 ≤ Z ∧ Z < 18446744073709551616 ∧ Hid (h * 18446744073709551616 + l = Z * 2 ^ (64 - s).toNat + l % 2 ^ (64 - s).toNat) := by
  have hPQ : (2 : Int) ^ s.toNat * 2 ^ (64 - s).toNat = 18446744073709551616 := by rw [← Int.pow_add, show s.toNat + (64 - s).toNat = 64 by omega]; rfl
  have p0 : (0 : Int) < 2 ^ s.toNat := Int.pow_pos (by decide)
  have q0 : (0 : Int) < 2 ^ (64 - s).toNat := Int.pow_pos (by decide)
  obtain ⟨P, hP⟩ : ∃ P : Int, 2 ^ s.toNat = P := ⟨_, rfl⟩
  obtain ⟨Q, hQ⟩ : ∃ Q : Int, 2 ^ (64 - s).toNat = Q := ⟨_, rfl⟩
  have d1 : l / Q < P := Int.ediv_lt_of_lt_mul (by omega) (by rw [← hP, ← hQ, hPQ]; exact l1)
  have d0 : 0 ≤ l / Q := Int.ediv_nonneg l0 (by omega)
  have h1 : (h + 1) * P ≤ Q * P := Int.mul_le_mul_of_nonneg_right (by omega) (by omega)
  have hPQ' : Q * P = 18446744073709551616 := by rw [← hP, ← hQ, Int.mul_comm]; exact hPQ
  have hP0 : 0 ≤ h * P := Int.mul_nonneg h0 (by omega)
  rw [Int.add_mul, Int.one_mul, hPQ'] at h1
  have hPle : P ≤ 18446744073709551616 := by omega
  have hw : IntKind.u64.wrap (h * 2 ^ s.toNat) = h * P := by rw [hP, IntKind.wrap_u64]; omega
  refine ⟨_, _, h * P + l / Q, hw, hP0, by omega, rfl, by rw [hQ]; exact d0, by rw [hQ]; omega, ?_, ?_, ?_, ?_⟩
  · rw [hQ]
    exact bits_join .u64 64 (by decide) wraps_u64 s.toNat _ _ hP0 (by rw [hP]; exact Int.mul_emod_left _ _) (by omega) d0 (by rw [hP]; exact d1) (by omega)
  · omega
  · omega
  · show _ = _
    rw [hQ]
    have e := Int.mul_ediv_add_emod l Q
    rw [Int.add_mul, Int.mul_assoc, Int.mul_comm P Q, hPQ', Int.mul_comm (l / Q) Q]
    omega

set_option maxRecDepth 100000 in
set_option maxHeartbeats 1000000 in
theorem bitsFrom_c (ao : Option Addr) (n cap k : Nat) (z : Int) (f : Nat → Int) (s : Int) (w : World) (hn : n ≤ 140737488355328) (hk : k + 1 ≤ 140737488355328) (hz : z = (k : Int) + 1) (hr : Rd .u64 w ao n f) (hf : Lm f n) (s0 : 0 ≤ s) (s1 : s ≤ 63) (hh : ext f n (k + 1) < 2 ^ (64 - s).toNat) :
    ∃ Z, 0 ≤ Z ∧ Z < 18446744073709551616 ∧ ext f n (k + 1) * 18446744073709551616 + ext f n k = Z * 2 ^ (64 - s).toNat + ext f n k % 2 ^ (64 - s).toNat ∧ Calls Tryd.prog 78 #[.slice ao n cap, .int .i64 z, .int .i64 s] w fun e w' => e = .returned (.int .u64 Z) ∧ ∃ q, w' = w.drewN q := by
  have lm : ∀ j, 0 ≤ ext f n j ∧ ext f n j < 18446744073709551616 := fun j => by
    by_cases hj : j < n
    · rw [ext_in _ _ _ hj]; exact hf j hj
    · rw [ext_out _ _ _ (by omega)]; omega
  have C1 := hid (fun W (h : Rd .u64 W ao n f) => limbAt_c ao n cap f (k + 1) W hn hk h)
  have C2 := hid (fun W (h : Rd .u64 W ao n f) => limbAt_c ao n cap f k W hn (by omega) h)
  obtain ⟨x, hx⟩ : ∃ x, ext f n (k + 1) = x := ⟨_, rfl⟩
  obtain ⟨y, hy⟩ : ∃ y, ext f n k = y := ⟨_, rfl⟩
  have lx := lm (k + 1); have ly := lm k
  rw [hx] at lx hh C1 ⊢
  rw [hy] at ly C2 ⊢
  obtain ⟨H, D, Z, e1, H0, H1, e2, D0, D1, e3, Z0, Z1, HZ⟩ := bits_two x y s lx.1 ly.1 ly.2 s0 s1 hh
  refine ⟨Z, Z0, Z1, HZ.out, ?_⟩
  have HR := hid hr
  obtain ⟨x0, x1⟩ := lx
  obtain ⟨y0, y1⟩ := ly
  have z0 : 1 ≤ z := by omega
  have z1 : z ≤ 140737488355328 := by omega
  have C3 := C2
  rw [show ((k + 1 : Nat) : Int) = z by omega] at C1
  rw [show ((k : Nat) : Int) = z - 1 by omega] at C3
  have C4 := C3
  rw [show z - 1 = IntKind.i64.wrap (z - 1) by rw [IntKind.wrap_i64]; omega] at C4
  have D1 := hid (fun q => (C1.out (w.drewN q) (show Rd .u64 (w.drewN q) ao n f from hr)).mono (R' := fun e w'' => e = .returned (.int .u64 x) ∧ ∃ n, w'' = w.drewN n) (fun _ _ h => ⟨h.1, _, h.2⟩))
  have D3 := hid (fun q => (C3.out (w.drewN q) (show Rd .u64 (w.drewN q) ao n f from hr)).mono (R' := fun e w'' => e = .returned (.int .u64 y) ∧ ∃ n, w'' = w.drewN n) (fun _ _ h => ⟨h.1, _, h.2⟩))
  have D4 := hid (fun q => (C4.out (w.drewN q) (show Rd .u64 (w.drewN q) ao n f from hr)).mono (R' := fun e w'' => e = .returned (.int .u64 y) ∧ ∃ n, w'' = w.drewN n) (fun _ _ h => ⟨h.1, _, h.2⟩))
  clear hr hf lm hx hy hh hz C2 hk C1 C3 C4
  go_enter Tryd.func78, Tryd.ntmps78
  go_wp2
  go_quiet (first | (go_at_call 54; with_reducible exact D1.out _) | (go_at_call 54; with_reducible exact D3.out _) | (go_at_call 54; with_reducible exact D4.out _))
  go_wp2
  go_ret
  exact ⟨rfl, _, rfl⟩
end Go.Proofs.YtjjbmioicliipabDoor

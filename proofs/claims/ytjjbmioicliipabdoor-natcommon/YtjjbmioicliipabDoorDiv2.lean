/-
  math/bits.Div64: its contract.
-/
import Derived.Test.YtjjbmioicliipabDoorDiv
import Derived.BigRegion
namespace Go.Proofs.YtjjbmioicliipabDoor
open Go.RowKit

theorem wraps_u64 (n : Int) (h0 : 0 ≤ n) (h1 : n < 2 ^ 64) : IntKind.u64.wrap n = n := by rw [IntKind.wrap_u64]; omega

theorem bitLen_bounds : ∀ (b x : Nat), Lib.bitLen x = b → 0 < x → x < 18446744073709551616 → 1 ≤ b ∧ 2 ^ (b - 1) ≤ x ∧ x < 2 ^ b := by
  intro b
  induction b with
  | zero =>
    intro x h h0 h1
    rw [Lib.bitLen_half x (by omega) (by omega)] at h
    omega
  | succ b ih =>
    intro x h h0 h1
    rw [Lib.bitLen_half x (by omega) (by omega)] at h
    by_cases hx : x = 1
    · subst hx
      have : b = 0 := by have h2 : Lib.bitLen (1 / 2) = 0 := by decide +kernel
                         omega
      subst this
      simp
    · obtain ⟨a1, a2, a3⟩ := ih (x / 2) (by omega) (by omega) (by omega)
      obtain ⟨c, rfl⟩ : ∃ c, b = c + 1 := ⟨b - 1, by omega⟩
      simp only [Nat.add_sub_cancel, Nat.pow_succ] at a2 a3 ⊢
      omega

/-- The numbers of Div64, put together. -/
theorem div64_nums (hi lo y : Int) (b : Nat) (h0 : 0 ≤ hi) (h1 : hi < y) (l0 : 0 ≤ lo) (l1 : lo < 18446744073709551616) (_b1 : 1 ≤ b) (_b2 : b ≤ 64) (p q : Int) (hp : p = 2 ^ (64 - b)) (hq : q = 2 ^ b) (hpq : p * q = 18446744073709551616) (p0 : 0 < p) (q0 : 0 < q) (ya : q ≤ 2 * y) (yb : y < q) :
    ∃ Y U L : Int, y * p = Y ∧ 9223372036854775808 ≤ Y ∧ Y < 18446744073709551616 ∧ bits BinOp.or .u64 (IntKind.u64.wrap (hi * p)) (lo / q) = U ∧ 0 ≤ U ∧ U < Y ∧ IntKind.u64.wrap (lo * p) = L ∧ 0 ≤ L ∧ L < 18446744073709551616 ∧ U * 18446744073709551616 + L = (hi * 18446744073709551616 + lo) * p := by
  have eY : y * p < q * p := (Int.mul_lt_mul_right p0).2 yb
  have eY2 : q * p ≤ 2 * y * p := Int.mul_le_mul_of_nonneg_right ya (Int.le_of_lt p0)
  rw [Int.mul_comm q p, hpq] at eY eY2
  have eH : hi * p < y * p := (Int.mul_lt_mul_right p0).2 h1
  have eH0 : 0 ≤ hi * p := Int.mul_nonneg h0 (Int.le_of_lt p0)
  have d0 : 0 ≤ lo / q := Int.ediv_nonneg l0 (Int.le_of_lt q0)
  have d1 : lo / q < p := by
    apply Int.ediv_lt_of_lt_mul q0
    rw [hpq]; exact l1
  have hw : IntKind.u64.wrap (hi * p) = hi * p := by rw [IntKind.wrap_u64]; omega
  have hor : bits BinOp.or .u64 (IntKind.u64.wrap (hi * p)) (lo / q) = hi * p + lo / q := by
    rw [hw]
    refine bits_join .u64 64 (by decide) wraps_u64 (64 - b) _ _ eH0 ?_ (by omega) d0 (by rw [← hp]; exact d1) ?_
    · rw [← hp]; exact Int.mul_emod_left _ _
    · have : p ≤ 18446744073709551616 := by rw [← hpq]; have := Int.mul_le_mul_of_nonneg_left (show (1 : Int) ≤ q by omega) (Int.le_of_lt p0); omega
      omega
  have e1 : lo * p / 18446744073709551616 = lo / q := by
    rw [← hpq, Int.mul_comm lo p]
    exact Int.mul_ediv_mul_of_pos _ _ p0
  have e2 := Int.mul_ediv_add_emod (lo * p) 18446744073709551616
  rw [e1] at e2
  have e3 : (hi * 18446744073709551616 + lo) * p = hi * p * 18446744073709551616 + lo * p := by rw [Int.add_mul]; congr 1; rw [Int.mul_assoc, Int.mul_comm 18446744073709551616 p, ← Int.mul_assoc]
  have e4 : (hi * p + lo / q) * 18446744073709551616 + (lo * p) % 18446744073709551616 = (hi * 18446744073709551616 + lo) * p := by rw [e3]; omega
  refine ⟨y * p, hi * p + lo / q, (lo * p) % 18446744073709551616, rfl, by rw [Int.mul_assoc] at eY2; omega, eY, hor, by omega, ?_, IntKind.wrap_u64 _, by omega, by omega, e4⟩
  have f1 : (hi * 18446744073709551616 + lo) * p < y * 18446744073709551616 * p := (Int.mul_lt_mul_right p0).2 (by omega)
  have f2 : y * 18446744073709551616 * p = y * p * 18446744073709551616 := by rw [Int.mul_assoc, Int.mul_comm 18446744073709551616 p, ← Int.mul_assoc]
  omega

/-- Quotient and rest, told by what they are. -/
theorem qr_unique {X y q r : Int} (h : X = q * y + r) (h0 : 0 ≤ r) (h1 : r < y) : X / y = q ∧ X % y = r := by
  have hy : 0 < y := by omega
  have e1 : X / y = q := by
    rw [h, Int.add_comm, Int.add_mul_ediv_right _ _ (by omega), Int.ediv_eq_zero_of_lt h0 h1]; omega
  refine ⟨e1, ?_⟩
  have := Int.mul_ediv_add_emod X y
  rw [e1, Int.mul_comm] at this
  omega

set_option maxHeartbeats 1000000 in
theorem div64_c (hi lo y : Int) (w : World) (h0 : 0 ≤ hi) (h1 : hi < y) (hy : y < 18446744073709551616) (l0 : 0 ≤ lo) (l1 : lo < 18446744073709551616) :
    Calls Tryd.prog 45 #[.int .u64 hi, .int .u64 lo, .int .u64 y] w fun e w' => e = .returned (.tuple #[.int .u64 ((hi * 18446744073709551616 + lo) / y), .int .u64 ((hi * 18446744073709551616 + lo) % y)]) ∧ ∃ n, w' = w.drewN n := by
  by_cases hz : hi = 0
  · subst hz
    have e0 : 0 * 18446744073709551616 + lo = lo := by omega
    rw [e0]
    have b0 : 0 ≤ lo / y := Int.ediv_nonneg l0 (by omega)
    have b1 : lo / y ≤ lo := Int.ediv_le_self y l0
    have b2 := Int.emod_nonneg lo (show y ≠ 0 by omega)
    have b3 := Int.emod_lt_of_pos lo (show 0 < y by omega)
    go_enter Tryd.func45, Tryd.ntmps45
    go_wp2
    go_quiet (fail)
    go_wp2
    go_ret2
    exact ⟨rfl, _, rfl⟩
  · obtain ⟨yn, rfl⟩ := Int.eq_ofNat_of_zero_le (show 0 ≤ y by omega)
    obtain ⟨b, hb⟩ : ∃ b, Lib.bitLen yn = b := ⟨_, rfl⟩
    obtain ⟨b1, b2, b3⟩ := bitLen_bounds b yn hb (by omega) (by omega)
    have b64 : b ≤ 64 := by rw [← hb]; exact Lib.bitLen_le yn 64 (by omega) (by omega)
    have hls := Tryd.bits_LeadingZeros64 (yn : Int) w (by omega) (by omega)
    rw [Int.toNat_natCast, hb] at hls
    have hp64 : (2 : Int) ^ (64 - b) * 2 ^ b = 18446744073709551616 := by rw [← Int.pow_add, show 64 - b + b = 64 by omega]; rfl
    have hya : (2 : Int) ^ b ≤ 2 * (yn : Int) := by
      have : 2 ^ b = 2 ^ (b - 1) * 2 := by rw [← Nat.pow_succ, show (b - 1).succ = b by omega]
      have h2 : 2 ^ b ≤ 2 * yn := by omega
      exact_mod_cast h2
    have hyb : (yn : Int) < 2 ^ b := by exact_mod_cast b3
    obtain ⟨Y, U, L, e1, c1, c2, e2, c3, c4, e3, c5, c6, e4⟩ := div64_nums hi lo yn b h0 h1 l0 l1 b1 b64 (2 ^ (64 - b)) (2 ^ b) rfl rfl hp64 (Int.pow_pos (by decide)) (Int.pow_pos (by decide)) hya hyb
    have es : (64 - (b : Int)).toNat = 64 - b := by omega
    have eb : (64 - (64 - (b : Int))).toNat = b := by omega
    have hand : ∀ z : Int, 0 ≤ z → z < 18446744073709551616 → bits BinOp.and .u64 z 4294967295 = z % 4294967296 := fun z z0 z1 => bits_mask .u64 64 (by decide) wraps_u64 32 (by decide) z z0 z1
    refine (div64_core hi lo yn (64 - (b : Int)) Y (Y / 4294967296) (Y % 4294967296) U L (L / 4294967296) (L % 4294967296) w (by omega) h1 hy l0 l1 (by omega) (by omega) hls
      (by rw [es, e1, IntKind.wrap_u64]; omega) rfl (hand Y (by omega) (by omega)) (by rw [es, eb]; exact e2) (by rw [es]; exact e3) rfl (hand L c5 c6) (by omega) (by omega) (by omega) (by omega) (by omega) (by omega) (by omega) (by omega) c3 (by omega) (show Y = _ by omega)).mono ?_
    rintro e w' ⟨rfl, q1, q0, R, rfl, r0, r1, _, _, _, _, hfin⟩
    refine ⟨?_, 0, rfl⟩
    rw [es]
    have f1 : (U * 4294967296 + L / 4294967296) * 4294967296 + L % 4294967296 = U * 18446744073709551616 + L := by omega
    rw [f1, e4, ← e1] at hfin
    have P0 : (0 : Int) < 2 ^ (64 - b) := Int.pow_pos (by decide)
    generalize (2 : Int) ^ (64 - b) = P at *
    have f2 : R = (hi * 18446744073709551616 + lo - (q1 * 4294967296 + q0) * yn) * P := by
      rw [Int.sub_mul, Int.mul_assoc (q1 * 4294967296 + q0)]; omega
    have f3 : R / P = hi * 18446744073709551616 + lo - (q1 * 4294967296 + q0) * yn := by rw [f2]; exact Int.mul_ediv_cancel _ (by omega)
    have f4 : 0 ≤ hi * 18446744073709551616 + lo - (q1 * 4294967296 + q0) * yn := by
      rw [← f3]; exact Int.ediv_nonneg r0 (Int.le_of_lt P0)
    have f5 : hi * 18446744073709551616 + lo - (q1 * 4294967296 + q0) * yn < yn := by
      have : (hi * 18446744073709551616 + lo - (q1 * 4294967296 + q0) * yn) * P < yn * P := by rw [← f2, e1]; exact r1
      exact Int.lt_of_mul_lt_mul_right this (Int.le_of_lt P0)
    obtain ⟨g1, g2⟩ := qr_unique (X := hi * 18446744073709551616 + lo) (y := yn) (q := q1 * 4294967296 + q0) (r := hi * 18446744073709551616 + lo - (q1 * 4294967296 + q0) * yn) (by omega) f4 f5
    rw [g1, g2, f3]
end Go.Proofs.YtjjbmioicliipabDoor

/-
  The walk of package nat's divLong: quotient and rest of long numbers.
-/
import Derived.Test.YtjjbmioicliipabDoorD3
import Derived.Test.YtjjbmioicliipabDoorD4
import Derived.Test.YtjjbmioicliipabDoorW7
namespace Go.Proofs.YtjjbmioicliipabDoor
open Go.RowKit

theorem top_zero {f : Nat → Int} {m : Nat} (h : Lm f (m + 1)) (hv : vf f (m + 1) < pw m) : f m = 0 ∧ vf f m = vf f (m + 1) := by
  have h0 := vf_nonneg (h.mono (m := m) (by omega))
  have h1 := h m (by omega)
  rw [vf_succ] at hv ⊢
  have hz : f m = 0 := by
    apply Int.le_antisymm _ h1.1
    apply Int.le_of_lt_add_one
    apply Int.lt_of_not_ge
    intro hge
    have : 1 * pw m ≤ f m * pw m := Int.mul_le_mul_of_nonneg_right (by omega) (Int.le_of_lt (pw_pos m))
    omega
  rw [hz]; simp
theorem top_ge {f : Nat → Int} {k : Nat} {c : Int} (h : Lm f (k + 1)) (hv : c * pw k ≤ vf f (k + 1)) : c ≤ f k := by
  apply Int.le_of_lt_add_one
  have h1 := vf_lt (h.mono (m := k) (by omega))
  rw [vf_succ] at hv
  have : c * pw k < (f k + 1) * pw k := by rw [Int.add_mul, Int.one_mul]; omega
  exact Int.lt_of_mul_lt_mul_right this (Int.le_of_lt (pw_pos k))
theorem win_val {U U' : Nat → Int} {p l N : Nat} {X : Int} (hN : p + l ≤ N) (he : ∀ j, j < p ∨ p + l ≤ j → U' j = U j) (hv : vf (sh U' p) l = vf (sh U p) l - X) : vf U' N = vf U N - X * pw p := by
  obtain ⟨r, rfl⟩ := Nat.exists_eq_add_of_le hN
  rw [Nat.add_assoc, vf_split U' p, vf_split U p, vf_split (sh U' p) l, vf_split (sh U p) l, sh_sh, sh_sh, vf_congr (f := U') (g := U) (n := p) (fun j hj => he j (by omega)), vf_congr (f := sh U' (p + l)) (g := sh U (p + l)) (n := r) (fun j hj => he _ (by omega)), hv]
  grind
theorem vf_upd {Q : Nat → Int} {p N : Nat} {t : Int} (hp : p < N) (h0 : Q p = 0) : vf (upd Q p t) N = vf Q N + t * pw p := by
  have := win_val (U := Q) (U' := upd Q p t) (p := p) (l := 1) (N := N) (X := -t) (by omega) (fun j hj => upd_other _ _ _ _ (by omega)) (by simp [vf, pw, sh, upd, h0])
  rw [this]; grind

theorem norm_V {h : Nat → Int} {k : Nat} {y P : Int} (hl : Lm h (k + 1)) (hy : h k = y) (p0 : 0 < P) (h1 : 9223372036854775808 ≤ y * P) (h2 : (y + 1) * P ≤ 18446744073709551616) : 9223372036854775808 * pw k ≤ vf h (k + 1) * P ∧ vf h (k + 1) * P < pw (k + 1) := by
  have lo := vf_nonneg (hl.mono (m := k) (by omega))
  have hi := vf_lt (hl.mono (m := k) (by omega))
  have pk := pw_pos k
  rw [vf_succ, hy, pw_succ, Int.add_mul]
  have e0 : 0 ≤ vf h k * P := Int.mul_nonneg lo (Int.le_of_lt p0)
  have e1 : 9223372036854775808 * pw k ≤ y * P * pw k := Int.mul_le_mul_of_nonneg_right h1 (Int.le_of_lt pk)
  have e2 : (y + 1) * P * pw k ≤ 18446744073709551616 * pw k := Int.mul_le_mul_of_nonneg_right h2 (Int.le_of_lt pk)
  have e3 : y * pw k * P = y * P * pw k := by grind
  have e4 : (y + 1) * P * pw k = y * P * pw k + pw k * P := by grind
  have e5 : vf h k * P < pw k * P := (Int.mul_lt_mul_right p0).2 hi
  rw [e3]
  omega
theorem norm_len {fv : Nat → Int} {kv k : Nat} {V : Int} (hl : Lm fv kv) (hf : Fm fv kv) (hv : vf fv kv = V) (h1 : 9223372036854775808 * pw k ≤ V) (h2 : V < pw (k + 1)) : kv = k + 1 := by
  have pk := pw_pos k
  have a : k + 1 ≤ kv := by
    apply Nat.le_of_not_lt; intro hlt
    have b1 := vf_lt hl
    have b2 := pw_mono (show kv ≤ k by omega)
    omega
  have b : kv ≤ k + 1 := by
    apply Nat.le_of_not_lt; intro hlt
    have b1 := vf_form_ge hl hf (by omega)
    have b2 := pw_mono (show k + 1 ≤ kv - 1 by omega)
    omega
  omega
/-- The highest limbs are less than the divisor. -/
theorem first_top {U : Nat → Int} {lq k : Nat} {A P V : Int} (hU : Lm U (lq + (k + 1))) (hv : vf U (lq + (k + 1)) = A * P) (hA : A < pw (lq + k)) (p0 : 0 < P) (p1 : P ≤ 9223372036854775808) (hV : 9223372036854775808 * pw k ≤ V) : vf (sh U lq) (k + 1) < V := by
  have lo := vf_nonneg (hU.mono (m := lq) (by omega))
  rw [vf_split] at hv
  have e1 : A * P < pw (lq + k) * P := (Int.mul_lt_mul_right p0).2 hA
  have e2 : P * pw k ≤ 9223372036854775808 * pw k := Int.mul_le_mul_of_nonneg_right p1 (Int.le_of_lt (pw_pos k))
  have e3 : P * pw k * pw lq ≤ V * pw lq := Int.mul_le_mul_of_nonneg_right (by omega) (Int.le_of_lt (pw_pos lq))
  have e4 : pw (lq + k) * P = P * pw k * pw lq := by rw [pw_add]; grind
  have : vf (sh U lq) (k + 1) * pw lq < V * pw lq := by omega
  exact Int.lt_of_mul_lt_mul_right this (Int.le_of_lt (pw_pos lq))
theorem win_lt {U : Nat → Int} {p m : Nat} {V : Int} (hU : Lm U (p + 1)) (h : vf (sh U (p + 1)) m < V) : vf (sh U p) (m + 1) < V * 18446744073709551616 := by
  have := hU p (by omega)
  rw [vf_cons]; omega

/-- Leading noughts of a limb. -/
theorem lead_nums (y : Nat) (y0 : 0 < y) (y1 : y < 18446744073709551616) : ∃ s : Int, 0 ≤ s ∧ s ≤ 63 ∧ (64 - (Lib.bitLen y : Int)) = s ∧ 9223372036854775808 ≤ (y : Int) * 2 ^ s.toNat ∧ ((y : Int) + 1) * 2 ^ s.toNat ≤ 18446744073709551616 := by
  obtain ⟨b, hb⟩ : ∃ b, Lib.bitLen y = b := ⟨_, rfl⟩
  obtain ⟨b1, b2, b3⟩ := bitLen_bounds b y hb y0 y1
  have b64 : b ≤ 64 := by rw [← hb]; exact Lib.bitLen_le y 64 (by omega) (by omega)
  rw [hb]
  have es : (64 - (b : Int)).toNat = 64 - b := by omega
  refine ⟨64 - (b : Int), by omega, by omega, rfl, ?_, ?_⟩
  · rw [es]
    have e1 : (2 : Int) ^ (b - 1) * 2 ^ (64 - b) = 9223372036854775808 := by rw [← Int.pow_add, show b - 1 + (64 - b) = 63 by omega]; rfl
    have e2 : (2 : Int) ^ (b - 1) ≤ y := by exact_mod_cast b2
    have := Int.mul_le_mul_of_nonneg_right e2 (Int.le_of_lt (show (0 : Int) < 2 ^ (64 - b) from Int.pow_pos (by decide)))
    omega
  · rw [es]
    have e1 : (2 : Int) ^ b * 2 ^ (64 - b) = 18446744073709551616 := by rw [← Int.pow_add, show b + (64 - b) = 64 by omega]; rfl
    have e2 : (y : Int) + 1 ≤ 2 ^ b := by exact_mod_cast b3
    have := Int.mul_le_mul_of_nonneg_right e2 (Int.le_of_lt (show (0 : Int) < 2 ^ (64 - b) from Int.pow_pos (by decide)))
    omega
end Go.Proofs.YtjjbmioicliipabDoor

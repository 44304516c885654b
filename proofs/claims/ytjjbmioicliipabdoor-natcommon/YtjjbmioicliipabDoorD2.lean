/-
  The walk of package nat's guess: a digit of a long quotient.
-/
import Derived.Test.YtjjbmioicliipabDoorD1
namespace Go.Proofs.YtjjbmioicliipabDoor
open Go.RowKit

/-- A guess t and what it leaves of the two highest limbs. -/
structure Gk (X u0 v1 v0 t r : Int) : Prop where
  eq : t * v1 + r = X
  up : t = 18446744073709551615 ∨ X * 18446744073709551616 + u0 < (t + 1) * (v1 * 18446744073709551616 + v0)
theorem gk_mul {X u0 v1 v0 t r : Int} (h : Gk X u0 v1 v0 t r) : t * (v1 * 18446744073709551616 + v0) = (X - r) * 18446744073709551616 + t * v0 := by
  have := h.eq
  have e : t * v1 = X - r := by omega
  rw [Int.mul_add, ← Int.mul_assoc, e]
theorem gk_fit {X u0 v1 v0 t r : Int} (h : Gk X u0 v1 v0 t r) (hl : t * v0 ≤ r * 18446744073709551616 + u0) : t * (v1 * 18446744073709551616 + v0) ≤ X * 18446744073709551616 + u0 := by
  rw [gk_mul h]; omega
theorem gk_big {X u0 v1 v0 t r : Int} (h : Gk X u0 v1 v0 t r) (t1 : t < 18446744073709551616) (v00 : 0 ≤ v0) (v01 : v0 < 18446744073709551616) (u00 : 0 ≤ u0) (hr : 18446744073709551616 ≤ r) : t * (v1 * 18446744073709551616 + v0) ≤ X * 18446744073709551616 + u0 := by
  refine gk_fit h ?_
  have : t * v0 ≤ 18446744073709551616 * v0 := Int.mul_le_mul_of_nonneg_right (by omega) v00
  omega
theorem gk_pos {u0 v0 t r : Int} (r0 : 0 ≤ r) (u00 : 0 ≤ u0) (v00 : 0 ≤ v0) (hl : r * 18446744073709551616 + u0 < t * v0) : 0 < t := by
  apply Int.lt_of_not_ge
  intro h
  have : t * v0 ≤ 0 * v0 := Int.mul_le_mul_of_nonneg_right h v00
  omega
theorem gk_step {X u0 v1 v0 t r : Int} (h : Gk X u0 v1 v0 (t + 1) r) (hl : r * 18446744073709551616 + u0 < (t + 1) * v0) : Gk X u0 v1 v0 t (r + v1) := by
  refine ⟨?_, .inr ?_⟩
  · have := h.eq; rw [Int.add_mul] at this; omega
  · rw [gk_mul h]; omega
theorem gk_first {u2 u1 u0 v1 v0 : Int} (a0 : 0 ≤ u2) (a1 : u2 < v1) (b0 : 0 ≤ u1) (b1 : u1 < 18446744073709551616) (_c0 : 0 ≤ u0) (c1 : u0 < 18446744073709551616) (d0 : 0 ≤ v0) :
    Gk (u2 * 18446744073709551616 + u1) u0 v1 v0 ((u2 * 18446744073709551616 + u1) / v1) ((u2 * 18446744073709551616 + u1) % v1) ∧ 0 ≤ (u2 * 18446744073709551616 + u1) / v1 ∧ (u2 * 18446744073709551616 + u1) / v1 < 18446744073709551616 ∧ 0 ≤ (u2 * 18446744073709551616 + u1) % v1 ∧ (u2 * 18446744073709551616 + u1) % v1 < v1 := by
  have hv : 0 < v1 := by omega
  obtain ⟨X, hX⟩ : ∃ X, u2 * 18446744073709551616 + u1 = X := ⟨_, rfl⟩
  rw [hX]
  have e1 := Int.mul_ediv_add_emod X v1
  have e2 := Int.emod_nonneg X (show v1 ≠ 0 by omega)
  have e3 := Int.emod_lt_of_pos X hv
  have e4 : 0 ≤ X / v1 := Int.ediv_nonneg (by omega) (by omega)
  have e5 : X / v1 < 18446744073709551616 := Int.ediv_lt_of_lt_mul hv (by
    have : u2 + 1 ≤ v1 := by omega
    have := Int.mul_le_mul_of_nonneg_left this (show (0 : Int) ≤ 18446744073709551616 by decide)
    omega)
  refine ⟨⟨by rw [Int.mul_comm]; exact e1, .inr ?_⟩, e4, e5, e2, e3⟩
  have e6 : (X / v1 + 1) * v1 = v1 * (X / v1) + v1 := by rw [Int.add_mul, Int.mul_comm]; omega
  have e7 : 0 ≤ (X / v1 + 1) * v0 := Int.mul_nonneg (by omega) d0
  rw [Int.mul_add, ← Int.mul_assoc, e6]
  omega

set_option maxRecDepth 100000 in
set_option maxHeartbeats 4000000 in
theorem guess_c (u2 u1 u0 v1 v0 : Int) (w : World) (a0 : 0 ≤ u2) (a1 : u2 ≤ v1) (b0 : 0 ≤ u1) (b1 : u1 < 18446744073709551616) (c0 : 0 ≤ u0) (c1 : u0 < 18446744073709551616) (d0 : 0 ≤ v0) (d1 : v0 < 18446744073709551616) (e0 : 0 < v1) (e1 : v1 < 18446744073709551616) :
    Calls Tryd.prog 67 #[.int .u64 u2, .int .u64 u1, .int .u64 u0, .int .u64 v1, .int .u64 v0] w fun e w' => (∃ q, w' = w.drewN q) ∧ ∃ t, e = .returned (.int .u64 t) ∧ 0 ≤ t ∧ t < 18446744073709551616 ∧
      t * (v1 * 18446744073709551616 + v0) ≤ (u2 * 18446744073709551616 + u1) * 18446744073709551616 + u0 ∧ (t = 18446744073709551615 ∨ (u2 * 18446744073709551616 + u1) * 18446744073709551616 + u0 < (t + 1) * (v1 * 18446744073709551616 + v0)) := by
  by_cases hlt : u2 < v1
  · obtain ⟨g1, g2, g3, g4, g5⟩ := gk_first (u0 := u0) (v0 := v0) a0 hlt b0 b1 c0 c1 d0
    have CD := hid (div64_c u2 u1 v1 w a0 hlt e1 b0 b1)
    obtain ⟨X, hX⟩ : ∃ X, u2 * 18446744073709551616 + u1 = X := ⟨_, rfl⟩
    rw [hX] at g1 g2 g3 g4 g5 CD ⊢
    obtain ⟨t0, ht0⟩ : ∃ t0, X / v1 = t0 := ⟨_, rfl⟩
    obtain ⟨r0, hr0⟩ : ∃ r0, X % v1 = r0 := ⟨_, rfl⟩
    rw [ht0, hr0] at g1 CD
    rw [ht0] at g2 g3
    rw [hr0] at g4 g5
    have G := hid g1
    clear g1 hX ht0 hr0
    go_enter Tryd.func67, Tryd.ntmps67
    go_wp2_with fail
    refine CD.out.mono ?_
    rintro e w1 ⟨rfl, q, rfl⟩
    go_wp2
    go_loop [11, 12, 13] (fun c d e => ∃ t r k : Int, c = .int .u64 t ∧ d = .int .u64 r ∧ e = .int .u64 k ∧ 0 ≤ t ∧ t < 18446744073709551616 ∧ 0 ≤ r ∧ r < 18446744073709551616 ∧ 0 ≤ k ∧ k ≤ 1 ∧ Hid (Gk X u0 v1 v0 t (r + k * 18446744073709551616))) (fun c _ _ => (intOf c).toNat)
    case atStart => exact ⟨t0, r0, 0, rfl, rfl, rfl, g2, g3, g4, by omega, by omega, by omega, by have := G.out; simpa [Hid] using this⟩
    case round =>
      clear G g2 g3 g4 g5
      obtain ⟨t, r, k, rfl, rfl, rfl, t0a, t0b, r0a, r0b, k0, k1, G⟩ := hrel
      by_cases hk : k = 0
      · subst hk
        have G2 := G.out
        rw [show r + 0 * 18446744073709551616 = r by omega] at G2
        have GG := hid G2
        clear G2 G
        have c1 := fun W => mul64_c t v0 W t0a t0b d0 d1
        have hbd := prod_bounds t0a t0b d0 d1
        obtain ⟨P, hP⟩ : ∃ P, t * v0 = P := ⟨_, rfl⟩
        rw [hP] at c1 hbd
        obtain ⟨hi, hhi⟩ : ∃ hi, P / 18446744073709551616 = hi := ⟨_, rfl⟩
        obtain ⟨lo, hlo⟩ : ∃ lo, P % 18446744073709551616 = lo := ⟨_, rfl⟩
        rw [hhi, hlo] at c1
        have hPP : P = hi * 18446744073709551616 + lo := by omega
        have i0 : 0 ≤ hi := by omega
        have i1 : hi < 18446744073709551616 := by omega
        have l0 : 0 ≤ lo := by omega
        have l1 : lo < 18446744073709551616 := by omega
        have C1 := hid c1; have HP := hid hP; have HPP := hid hPP
        clear c1 hP hPP hhi hlo hbd
        by_cases hfit : P ≤ r * 18446744073709551616 + u0
        · have FIT := hid (gk_fit GG.out (by rw [HP.out]; exact hfit))
          have UP := hid GG.out.up
          by_cases hhr : hi < r
          · clear hfit
            go_wp2_with fail
            refine (C1.out _).mono ?_
            rintro e wx ⟨rfl, rfl⟩
            go_wp2
            go_ret
            exact ⟨⟨q, rfl⟩, t, rfl, t0a, t0b, FIT.out, UP.out⟩
          · have hhe : hi = r := by have := HPP.out; omega
            have hlu : lo ≤ u0 := by have := HPP.out; omega
            subst hhe
            clear hfit
            have hee : (hi == hi) = true := by simp
            go_wp2_with fail
            refine (C1.out _).mono ?_
            rintro e wx ⟨rfl, rfl⟩
            go_wp2
            go_ret
            exact ⟨⟨q, rfl⟩, t, rfl, t0a, t0b, FIT.out, UP.out⟩
        · have hgt : r * 18446744073709551616 + u0 < t * v0 := by rw [HP.out]; omega
          have htp := gk_pos r0a c0 d0 hgt
          obtain ⟨s, rfl⟩ : ∃ s, t = s + 1 := ⟨t - 1, by omega⟩
          have G1 := hid (gk_step GG.out hgt)
          clear GG hgt
          have G3 : Hid (Gk X u0 v1 v0 s ((r + v1) % 18446744073709551616 + (r + v1) / 18446744073709551616 * 18446744073709551616)) := by
            show Gk _ _ _ _ _ _
            have : (r + v1) % 18446744073709551616 + (r + v1) / 18446744073709551616 * 18446744073709551616 = r + v1 := by omega
            rw [this]; exact G1.out
          clear G1
          have hs : s + 1 - 1 = s := by omega
          by_cases hhr : r < hi
          · have hne : (hi == r) = false := by simp; omega
            clear hfit
            go_wp2_with fail
            refine (C1.out _).mono ?_
            rintro e wx ⟨rfl, rfl⟩
            go_wp2_with (simp only [add64_0 r v1 r0a (Int.le_of_lt e0)])
            go_round
            case rel => exact ⟨s, _, _, by go_num, rfl, rfl, by omega, by omega, by omega, by omega, by omega, by omega, G3.out⟩
            case measure => simp [intOf]; omega
          · have hhe : hi = r := by have := HPP.out; omega
            have hlu : ¬ lo ≤ u0 := by have := HPP.out; omega
            subst hhe
            clear hfit
            have hee : (hi == hi) = true := by simp
            go_wp2_with fail
            refine (C1.out _).mono ?_
            rintro e wx ⟨rfl, rfl⟩
            go_wp2_with (simp only [add64_0 hi v1 r0a (Int.le_of_lt e0)])
            go_round
            case rel => exact ⟨s, _, _, by go_num, rfl, rfl, by omega, by omega, by omega, by omega, by omega, by omega, G3.out⟩
            case measure => simp [intOf]; omega
      · have hk1 : k = 1 := by omega
        subst hk1
        have BIG := hid (gk_big G.out t0b d0 d1 c0 (by omega))
        have UP := hid G.out.up
        go_wp2
        go_ret
        exact ⟨⟨q, rfl⟩, t, rfl, t0a, t0b, BIG.out, UP.out⟩
  · obtain rfl : u2 = v1 := by omega
    obtain ⟨X, hX⟩ : ∃ X, u2 * 18446744073709551616 + u1 = X := ⟨_, rfl⟩
    rw [hX]
    have G : Hid (Gk X u0 u2 v0 18446744073709551615 ((u1 + u2) % 18446744073709551616 + (u1 + u2) / 18446744073709551616 * 18446744073709551616)) := by
      show Gk _ _ _ _ _ _
      exact ⟨by omega, .inl rfl⟩
    clear hX
    go_enter Tryd.func67, Tryd.ntmps67
    go_wp2_with (simp only [add64_0 u1 u2 b0 a0])
    go_loop [11, 12, 13] (fun c d e => ∃ t r k : Int, c = .int .u64 t ∧ d = .int .u64 r ∧ e = .int .u64 k ∧ 0 ≤ t ∧ t < 18446744073709551616 ∧ 0 ≤ r ∧ r < 18446744073709551616 ∧ 0 ≤ k ∧ k ≤ 1 ∧ Hid (Gk X u0 u2 v0 t (r + k * 18446744073709551616))) (fun c _ _ => (intOf c).toNat)
    case atStart => exact ⟨18446744073709551615, _, _, rfl, rfl, rfl, by omega, by omega, by omega, by omega, by omega, by omega, G.out⟩
    case round =>
      clear G
      obtain ⟨t, r, k, rfl, rfl, rfl, t0a, t0b, r0a, r0b, k0, k1, G⟩ := hrel
      by_cases hk : k = 0
      · subst hk
        have G2 := G.out
        rw [show r + 0 * 18446744073709551616 = r by omega] at G2
        have GG := hid G2
        clear G2 G
        have c1 := fun W => mul64_c t v0 W t0a t0b d0 d1
        have hbd := prod_bounds t0a t0b d0 d1
        obtain ⟨P, hP⟩ : ∃ P, t * v0 = P := ⟨_, rfl⟩
        rw [hP] at c1 hbd
        obtain ⟨hi, hhi⟩ : ∃ hi, P / 18446744073709551616 = hi := ⟨_, rfl⟩
        obtain ⟨lo, hlo⟩ : ∃ lo, P % 18446744073709551616 = lo := ⟨_, rfl⟩
        rw [hhi, hlo] at c1
        have hPP : P = hi * 18446744073709551616 + lo := by omega
        have i0 : 0 ≤ hi := by omega
        have i1 : hi < 18446744073709551616 := by omega
        have l0 : 0 ≤ lo := by omega
        have l1 : lo < 18446744073709551616 := by omega
        have C1 := hid c1; have HP := hid hP; have HPP := hid hPP
        clear c1 hP hPP hhi hlo hbd
        by_cases hfit : P ≤ r * 18446744073709551616 + u0
        · have FIT := hid (gk_fit GG.out (by rw [HP.out]; exact hfit))
          have UP := hid GG.out.up
          by_cases hhr : hi < r
          · clear hfit
            go_wp2_with fail
            refine (C1.out _).mono ?_
            rintro e wx ⟨rfl, rfl⟩
            go_wp2
            go_ret
            exact ⟨⟨0, rfl⟩, t, rfl, t0a, t0b, FIT.out, UP.out⟩
          · have hhe : hi = r := by have := HPP.out; omega
            have hlu : lo ≤ u0 := by have := HPP.out; omega
            subst hhe
            clear hfit
            have hee : (hi == hi) = true := by simp
            go_wp2_with fail
            refine (C1.out _).mono ?_
            rintro e wx ⟨rfl, rfl⟩
            go_wp2
            go_ret
            exact ⟨⟨0, rfl⟩, t, rfl, t0a, t0b, FIT.out, UP.out⟩
        · have hgt : r * 18446744073709551616 + u0 < t * v0 := by rw [HP.out]; omega
          have htp := gk_pos r0a c0 d0 hgt
          obtain ⟨s, rfl⟩ : ∃ s, t = s + 1 := ⟨t - 1, by omega⟩
          have G1 := hid (gk_step GG.out hgt)
          clear GG hgt
          have G3 : Hid (Gk X u0 u2 v0 s ((r + u2) % 18446744073709551616 + (r + u2) / 18446744073709551616 * 18446744073709551616)) := by
            show Gk _ _ _ _ _ _
            have : (r + u2) % 18446744073709551616 + (r + u2) / 18446744073709551616 * 18446744073709551616 = r + u2 := by omega
            rw [this]; exact G1.out
          clear G1
          have hs : s + 1 - 1 = s := by omega
          by_cases hhr : r < hi
          · have hne : (hi == r) = false := by simp; omega
            clear hfit
            go_wp2_with fail
            refine (C1.out _).mono ?_
            rintro e wx ⟨rfl, rfl⟩
            go_wp2_with (simp only [add64_0 r u2 r0a (Int.le_of_lt e0)])
            go_round
            case rel => exact ⟨s, _, _, by go_num, rfl, rfl, by omega, by omega, by omega, by omega, by omega, by omega, G3.out⟩
            case measure => simp [intOf]; omega
          · have hhe : hi = r := by have := HPP.out; omega
            have hlu : ¬ lo ≤ u0 := by have := HPP.out; omega
            subst hhe
            clear hfit
            have hee : (hi == hi) = true := by simp
            go_wp2_with fail
            refine (C1.out _).mono ?_
            rintro e wx ⟨rfl, rfl⟩
            go_wp2_with (simp only [add64_0 hi u2 r0a (Int.le_of_lt e0)])
            go_round
            case rel => exact ⟨s, _, _, by go_num, rfl, rfl, by omega, by omega, by omega, by omega, by omega, by omega, G3.out⟩
            case measure => simp [intOf]; omega
      · have hk1 : k = 1 := by omega
        subst hk1
        have BIG := hid (gk_big G.out t0b d0 d1 c0 (by omega))
        have UP := hid G.out.up
        go_wp2
        go_ret
        exact ⟨⟨0, rfl⟩, t, rfl, t0a, t0b, BIG.out, UP.out⟩
end Go.Proofs.YtjjbmioicliipabDoor

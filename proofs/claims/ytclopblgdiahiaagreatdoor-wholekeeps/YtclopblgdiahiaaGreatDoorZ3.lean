/-
  The walk of package nat's guess: a digit of a long quotient. The walk of package nat's takeOut: a digit of a long quotient, and what is left. The same words for digits to the base 2^32. Numbers times 2^n, limb by limb and digit by digit; a list made with room behind it. No Go text is named here. Walks of package nat's shl and Shl: a number times 2^n. The walk of package nat's shrBits: a number by 2^n. The walk of package nat's divLong: quotient and rest of long numbers. The walk of package nat's divLong, and divMod for all numbers. Walks of nat's calls Mul and DivMod, whatever they are handed. Euclid's steps by the highest bits (Lehmer's way, Collins' condition), on plain numbers. No Go text is named here. Walks of package nat's greatest common divisor: findSteps. Walks of package nat's greatest common divisor: bitsFrom, highBits.
-/
import Derived.Test.YtclopblgdiahiaaGreatDoorZ2
import Derived.BigQuiet
import Derived.Test.YtclopblgdiahiaaGreatDoorZ0
import Derived.Test.YtclopblgdiahiaaGreatDoorZ1
import Derived.BigRegion
namespace Go.Proofs.YtclopblgdiahiaaGreatDoor
open Go.RowKit

/-- A guess t and what it leaves of the two highest limbs. -/
structure Gk (X u0 v1 v0 t r : Int) : Prop where
  eq : t * v1 + r = X
  up : t = 18446744073709551615 ∨ X * 18446744073709551616 + u0 < (t + 1) * (v1 * 18446744073709551616 + v0)
theorem gk_mul {X u0 v1 v0 t r : Int} (h : Gk X u0 v1 v0 t r) : t * (v1 * 18446744073709551616 + v0) = (X - r) * 18446744073709551616 + t * v0 := by
  have := h.eq
  have e : t * v1 = X - r := by omega
  rw [Int.mul_add, ← Int.mul_assoc, e]
theorem gk_fit {X u0 v1 v0 t r : Int} (h : Gk X u0 v1 v0 t r) (hl : t * v0 ≤ r * 18446744073709551616 + u0) : t * (v1 * 18446744073709551616 + v0) ≤ X * 18446744073709551616 + u0 := by
  rw [gk_mul h]; omega
theorem gk_big {X u0 v1 v0 t r : Int} (h : Gk X u0 v1 v0 t r) (t1 : t < 18446744073709551616) (v00 : 0 ≤ v0) (v01 : v0 < 18446744073709551616) (u00 : 0 ≤ u0) (hr : 18446744073709551616 ≤ r) : t * (v1 * 18446744073709551616 + v0) ≤ X * 18446744073709551616 + u0 := by
  refine gk_fit h ?_
  have : t * v0 ≤ 18446744073709551616 * v0 := Int.mul_le_mul_of_nonneg_right (by omega) v00
  omega
theorem gk_pos {u0 v0 t r : Int} (r0 : 0 ≤ r) (u00 : 0 ≤ u0) (v00 : 0 ≤ v0) (hl : r * 18446744073709551616 + u0 < t * v0) : 0 < t := by
  apply Int.lt_of_not_ge
  intro h
  have : t * v0 ≤ 0 * v0 := Int.mul_le_mul_of_nonneg_right h v00
  omega
theorem gk_step {X u0 v1 v0 t r : Int} (h : Gk X u0 v1 v0 (t + 1) r) (hl : r * 18446744073709551616 + u0 < (t + 1) * v0) : Gk X u0 v1 v0 t (r + v1) := by
  refine ⟨?_, .inr ?_⟩
  · have := h.eq; rw [Int.add_mul] at this; omega
  · rw [gk_mul h]; omega
theorem gk_first {u2 u1 u0 v1 v0 : Int} (a0 : 0 ≤ u2) (a1 : u2 < v1) (b0 : 0 ≤ u1) (b1 : u1 < 18446744073709551616) (_c0 : 0 ≤ u0) (c1 : u0 < 18446744073709551616) (d0 : 0 ≤ v0) :
    Gk (u2 * 18446744073709551616 + u1) u0 v1 v0 ((u2 * 18446744073709551616 + u1) / v1) ((u2 * 18446744073709551616 + u1) % v1) ∧ 0 ≤ (u2 * 18446744073709551616 + u1) / v1 ∧ (u2 * 18446744073709551616 + u1) / v1 < 18446744073709551616 ∧ 0 ≤ (u2 * 18446744073709551616 + u1) % v1 ∧ (u2 * 18446744073709551616 + u1) % v1 < v1 := by
  have hv : 0 < v1 := by omega
  obtain ⟨X, hX⟩ : ∃ X, u2 * 18446744073709551616 + u1 = X := ⟨_, rfl⟩
  rw [hX]
  have e1 := Int.mul_ediv_add_emod X v1
  have e2 := Int.emod_nonneg X (show v1 ≠ 0 by omega)
  have e3 := Int.emod_lt_of_pos X hv
  have e4 : 0 ≤ X / v1 := Int.ediv_nonneg (by omega) (by omega)
  have e5 : X / v1 < 18446744073709551616 := Int.ediv_lt_of_lt_mul hv (by
    have : u2 + 1 ≤ v1 := by omega
    have := Int.mul_le_mul_of_nonneg_left this (show (0 : Int) ≤ 18446744073709551616 by decide)
    omega)
  refine ⟨⟨by rw [Int.mul_comm]; exact e1, .inr ?_⟩, e4, e5, e2, e3⟩
  have e6 : (X / v1 + 1) * v1 = v1 * (X / v1) + v1 := by rw [Int.add_mul, Int.mul_comm]; omega
  have e7 : 0 ≤ (X / v1 + 1) * v0 := Int.mul_nonneg (by omega) d0
  rw [Int.mul_add, ← Int.mul_assoc, e6]
  omega

set_option maxRecDepth 100000 in
set_option maxHeartbeats 4000000 in
theorem guess_c (u2 u1 u0 v1 v0 : Int) (w : World) (a0 : 0 ≤ u2) (a1 : u2 ≤ v1) (b0 : 0 ≤ u1) (b1 : u1 < 18446744073709551616) (c0 : 0 ≤ u0) (c1 : u0 < 18446744073709551616) (d0 : 0 ≤ v0) (d1 : v0 < 18446744073709551616) (e0 : 0 < v1) (e1 : v1 < 18446744073709551616) :
    Calls Tryz.prog 180 #[.int .u64 u2, .int .u64 u1, .int .u64 u0, .int .u64 v1, .int .u64 v0] w fun e w' => (∃ q, w' = w.drewN q) ∧ ∃ t, e = .returned (.int .u64 t) ∧ 0 ≤ t ∧ t < 18446744073709551616 ∧
      t * (v1 * 18446744073709551616 + v0) ≤ (u2 * 18446744073709551616 + u1) * 18446744073709551616 + u0 ∧ (t = 18446744073709551615 ∨ (u2 * 18446744073709551616 + u1) * 18446744073709551616 + u0 < (t + 1) * (v1 * 18446744073709551616 + v0)) := by
  by_cases hlt : u2 < v1
  · obtain ⟨g1, g2, g3, g4, g5⟩ := gk_first (u0 := u0) (v0 := v0) a0 hlt b0 b1 c0 c1 d0
    have CD := hid (div64_c u2 u1 v1 w a0 hlt e1 b0 b1)
    obtain ⟨X, hX⟩ : ∃ X, u2 * 18446744073709551616 + u1 = X := ⟨_, rfl⟩
    rw [hX] at g1 g2 g3 g4 g5 CD ⊢
    obtain ⟨t0, ht0⟩ : ∃ t0, X / v1 = t0 := ⟨_, rfl⟩
    obtain ⟨r0, hr0⟩ : ∃ r0, X % v1 = r0 := ⟨_, rfl⟩
    rw [ht0, hr0] at g1 CD
    rw [ht0] at g2 g3
    rw [hr0] at g4 g5
    have G := hid g1
    clear g1 hX ht0 hr0
    go_enter Tryz.func180, Tryz.ntmps180
    go_wp2_with fail
    refine CD.out.mono ?_
    rintro e w1 ⟨rfl, q, rfl⟩
    go_wp2
    go_loop [11, 12, 13] (fun c d e => ∃ t r k : Int, c = .int .u64 t ∧ d = .int .u64 r ∧ e = .int .u64 k ∧ 0 ≤ t ∧ t < 18446744073709551616 ∧ 0 ≤ r ∧ r < 18446744073709551616 ∧ 0 ≤ k ∧ k ≤ 1 ∧ Hid (Gk X u0 v1 v0 t (r + k * 18446744073709551616))) (fun c _ _ => (intOf c).toNat)
    case atStart => exact ⟨t0, r0, 0, rfl, rfl, rfl, g2, g3, g4, by omega, by omega, by omega, by have := G.out; simpa [Hid] using this⟩
    case round =>
      clear G g2 g3 g4 g5
      obtain ⟨t, r, k, rfl, rfl, rfl, t0a, t0b, r0a, r0b, k0, k1, G⟩ := hrel
      by_cases hk : k = 0
      · subst hk
        have G2 := G.out
        rw [show r + 0 * 18446744073709551616 = r by omega] at G2
        have GG := hid G2
        clear G2 G
        have c1 := fun W => mul64_c t v0 W t0a t0b d0 d1
        have hbd := prod_bounds t0a t0b d0 d1
        obtain ⟨P, hP⟩ : ∃ P, t * v0 = P := ⟨_, rfl⟩
        rw [hP] at c1 hbd
        obtain ⟨hi, hhi⟩ : ∃ hi, P / 18446744073709551616 = hi := ⟨_, rfl⟩
        obtain ⟨lo, hlo⟩ : ∃ lo, P % 18446744073709551616 = lo := ⟨_, rfl⟩
        rw [hhi, hlo] at c1
        have hPP : P = hi * 18446744073709551616 + lo := by omega
        have i0 : 0 ≤ hi := by omega
        have i1 : hi < 18446744073709551616 := by omega
        have l0 : 0 ≤ lo := by omega
        have l1 : lo < 18446744073709551616 := by omega
        have C1 := hid c1; have HP := hid hP; have HPP := hid hPP
        clear c1 hP hPP hhi hlo hbd
        by_cases hfit : P ≤ r * 18446744073709551616 + u0
        · have FIT := hid (gk_fit GG.out (by rw [HP.out]; exact hfit))
          have UP := hid GG.out.up
          by_cases hhr : hi < r
          · clear hfit
            go_wp2_with fail
            refine (C1.out _).mono ?_
            rintro e wx ⟨rfl, rfl⟩
            go_wp2
            go_ret
            exact ⟨⟨q, rfl⟩, t, rfl, t0a, t0b, FIT.out, UP.out⟩
          · have hhe : hi = r := by have := HPP.out; omega
            have hlu : lo ≤ u0 := by have := HPP.out; omega
            subst hhe
            clear hfit
            have hee : (hi == hi) = true := by simp
            go_wp2_with fail
            refine (C1.out _).mono ?_
            rintro e wx ⟨rfl, rfl⟩
            go_wp2
            go_ret
            exact ⟨⟨q, rfl⟩, t, rfl, t0a, t0b, FIT.out, UP.out⟩
        · have hgt : r * 18446744073709551616 + u0 < t * v0 := by rw [HP.out]; omega
          have htp := gk_pos r0a c0 d0 hgt
          obtain ⟨s, rfl⟩ : ∃ s, t = s + 1 := ⟨t - 1, by omega⟩
          have G1 := hid (gk_step GG.out hgt)
          clear GG hgt
          have G3 : Hid (Gk X u0 v1 v0 s ((r + v1) % 18446744073709551616 + (r + v1) / 18446744073709551616 * 18446744073709551616)) := by
            show Gk _ _ _ _ _ _
            have : (r + v1) % 18446744073709551616 + (r + v1) / 18446744073709551616 * 18446744073709551616 = r + v1 := by omega
            rw [this]; exact G1.out
          clear G1
          have hs : s + 1 - 1 = s := by omega
          by_cases hhr : r < hi
          · have hne : (hi == r) = false := by simp; omega
            clear hfit
            go_wp2_with fail
            refine (C1.out _).mono ?_
            rintro e wx ⟨rfl, rfl⟩
            go_wp2_with (simp only [add64_0 r v1 r0a (Int.le_of_lt e0)])
            go_round
            case rel => exact ⟨s, _, _, by go_num, rfl, rfl, by omega, by omega, by omega, by omega, by omega, by omega, G3.out⟩
            case measure => simp [intOf]; omega
          · have hhe : hi = r := by have := HPP.out; omega
            have hlu : ¬ lo ≤ u0 := by have := HPP.out; omega
            subst hhe
            clear hfit
            have hee : (hi == hi) = true := by simp
            go_wp2_with fail
            refine (C1.out _).mono ?_
            rintro e wx ⟨rfl, rfl⟩
            go_wp2_with (simp only [add64_0 hi v1 r0a (Int.le_of_lt e0)])
            go_round
            case rel => exact ⟨s, _, _, by go_num, rfl, rfl, by omega, by omega, by omega, by omega, by omega, by omega, G3.out⟩
            case measure => simp [intOf]; omega
      · have hk1 : k = 1 := by omega
        subst hk1
        have BIG := hid (gk_big G.out t0b d0 d1 c0 (by omega))
        have UP := hid G.out.up
        go_wp2
        go_ret
        exact ⟨⟨q, rfl⟩, t, rfl, t0a, t0b, BIG.out, UP.out⟩
  · obtain rfl : u2 = v1 := by omega
    obtain ⟨X, hX⟩ : ∃ X, u2 * 18446744073709551616 + u1 = X := ⟨_, rfl⟩
    rw [hX]
    have G : Hid (Gk X u0 u2 v0 18446744073709551615 ((u1 + u2) % 18446744073709551616 + (u1 + u2) / 18446744073709551616 * 18446744073709551616)) := by
      show Gk _ _ _ _ _ _
      exact ⟨by omega, .inl rfl⟩
    clear hX
    go_enter Tryz.func180, Tryz.ntmps180
    go_wp2_with (simp only [add64_0 u1 u2 b0 a0])
    go_loop [11, 12, 13] (fun c d e => ∃ t r k : Int, c = .int .u64 t ∧ d = .int .u64 r ∧ e = .int .u64 k ∧ 0 ≤ t ∧ t < 18446744073709551616 ∧ 0 ≤ r ∧ r < 18446744073709551616 ∧ 0 ≤ k ∧ k ≤ 1 ∧ Hid (Gk X u0 u2 v0 t (r + k * 18446744073709551616))) (fun c _ _ => (intOf c).toNat)
    case atStart => exact ⟨18446744073709551615, _, _, rfl, rfl, rfl, by omega, by omega, by omega, by omega, by omega, by omega, G.out⟩
    case round =>
      clear G
      obtain ⟨t, r, k, rfl, rfl, rfl, t0a, t0b, r0a, r0b, k0, k1, G⟩ := hrel
      by_cases hk : k = 0
      · subst hk
        have G2 := G.out
        rw [show r + 0 * 18446744073709551616 = r by omega] at G2
        have GG := hid G2
        clear G2 G
        have c1 := fun W => mul64_c t v0 W t0a t0b d0 d1
        have hbd := prod_bounds t0a t0b d0 d1
        obtain ⟨P, hP⟩ : ∃ P, t * v0 = P := ⟨_, rfl⟩
        rw [hP] at c1 hbd
        obtain ⟨hi, hhi⟩ : ∃ hi, P / 18446744073709551616 = hi := ⟨_, rfl⟩
        obtain ⟨lo, hlo⟩ : ∃ lo, P % 18446744073709551616 = lo := ⟨_, rfl⟩
        rw [hhi, hlo] at c1
        have hPP : P = hi * 18446744073709551616 + lo := by omega
        have i0 : 0 ≤ hi := by omega
        have i1 : hi < 18446744073709551616 := by omega
        have l0 : 0 ≤ lo := by omega
        have l1 : lo < 18446744073709551616 := by omega
        have C1 := hid c1; have HP := hid hP; have HPP := hid hPP
        clear c1 hP hPP hhi hlo hbd
        by_cases hfit : P ≤ r * 18446744073709551616 + u0
        · have FIT := hid (gk_fit GG.out (by rw [HP.out]; exact hfit))
          have UP := hid GG.out.up
          by_cases hhr : hi < r
          · clear hfit
            go_wp2_with fail
            refine (C1.out _).mono ?_
            rintro e wx ⟨rfl, rfl⟩
            go_wp2
            go_ret
            exact ⟨⟨0, rfl⟩, t, rfl, t0a, t0b, FIT.out, UP.out⟩
          · have hhe : hi = r := by have := HPP.out; omega
            have hlu : lo ≤ u0 := by have := HPP.out; omega
            subst hhe
            clear hfit
            have hee : (hi == hi) = true := by simp
            go_wp2_with fail
            refine (C1.out _).mono ?_
            rintro e wx ⟨rfl, rfl⟩
            go_wp2
            go_ret
            exact ⟨⟨0, rfl⟩, t, rfl, t0a, t0b, FIT.out, UP.out⟩
        · have hgt : r * 18446744073709551616 + u0 < t * v0 := by rw [HP.out]; omega
          have htp := gk_pos r0a c0 d0 hgt
          obtain ⟨s, rfl⟩ : ∃ s, t = s + 1 := ⟨t - 1, by omega⟩
          have G1 := hid (gk_step GG.out hgt)
          clear GG hgt
          have G3 : Hid (Gk X u0 u2 v0 s ((r + u2) % 18446744073709551616 + (r + u2) / 18446744073709551616 * 18446744073709551616)) := by
            show Gk _ _ _ _ _ _
            have : (r + u2) % 18446744073709551616 + (r + u2) / 18446744073709551616 * 18446744073709551616 = r + u2 := by omega
            rw [this]; exact G1.out
          clear G1
          have hs : s + 1 - 1 = s := by omega
          by_cases hhr : r < hi
          · have hne : (hi == r) = false := by simp; omega
            clear hfit
            go_wp2_with fail
            refine (C1.out _).mono ?_
            rintro e wx ⟨rfl, rfl⟩
            go_wp2_with (simp only [add64_0 r u2 r0a (Int.le_of_lt e0)])
            go_round
            case rel => exact ⟨s, _, _, by go_num, rfl, rfl, by omega, by omega, by omega, by omega, by omega, by omega, G3.out⟩
            case measure => simp [intOf]; omega
          · have hhe : hi = r := by have := HPP.out; omega
            have hlu : ¬ lo ≤ u0 := by have := HPP.out; omega
            subst hhe
            clear hfit
            have hee : (hi == hi) = true := by simp
            go_wp2_with fail
            refine (C1.out _).mono ?_
            rintro e wx ⟨rfl, rfl⟩
            go_wp2_with (simp only [add64_0 hi u2 r0a (Int.le_of_lt e0)])
            go_round
            case rel => exact ⟨s, _, _, by go_num, rfl, rfl, by omega, by omega, by omega, by omega, by omega, by omega, G3.out⟩
            case measure => simp [intOf]; omega
      · have hk1 : k = 1 := by omega
        subst hk1
        have BIG := hid (gk_big G.out t0b d0 d1 c0 (by omega))
        have UP := hid G.out.up
        go_wp2
        go_ret
        exact ⟨⟨0, rfl⟩, t, rfl, t0a, t0b, BIG.out, UP.out⟩
end Go.Proofs.YtclopblgdiahiaaGreatDoor
namespace Go.Proofs.YtclopblgdiahiaaGreatDoor
open Go.RowKit

/-- The guess, told by what it is. -/
def gq (T V : Int) : Int := if T / V ≤ 18446744073709551615 then T / V else 18446744073709551615
theorem gq_of {T V t : Int} (hV : 0 < V) (t1 : t < 18446744073709551616) (h1 : t * V ≤ T) (h2 : t = 18446744073709551615 ∨ T < (t + 1) * V) : t = gq T V := by
  have e1 := Int.mul_ediv_add_emod T V
  have e2 := Int.emod_nonneg T (show V ≠ 0 by omega)
  have e3 := Int.emod_lt_of_pos T hV
  have le : t ≤ T / V := (Int.le_ediv_iff_mul_le hV).2 h1
  unfold gq
  rcases h2 with rfl | h2
  · split <;> omega
  · have : T / V < t + 1 := (Int.ediv_lt_iff_lt_mul hV).2 h2
    rw [if_pos (by omega)]; omega

theorem guess_q (u2 u1 u0 v1 v0 : Int) (w : World) (a0 : 0 ≤ u2) (a1 : u2 ≤ v1) (b0 : 0 ≤ u1) (b1 : u1 < 18446744073709551616) (c0 : 0 ≤ u0) (c1 : u0 < 18446744073709551616) (d0 : 0 ≤ v0) (d1 : v0 < 18446744073709551616) (e0 : 0 < v1) (e1 : v1 < 18446744073709551616) :
    Calls Tryz.prog 180 #[.int .u64 u2, .int .u64 u1, .int .u64 u0, .int .u64 v1, .int .u64 v0] w fun e w' => e = .returned (.int .u64 (gq ((u2 * 18446744073709551616 + u1) * 18446744073709551616 + u0) (v1 * 18446744073709551616 + v0))) ∧ ∃ q, w' = w.drewN q := by
  refine (guess_c u2 u1 u0 v1 v0 w a0 a1 b0 b1 c0 c1 d0 d1 e0 e1).mono ?_
  rintro e w' ⟨hq, t, rfl, t0, t1, h1, h2⟩
  refine ⟨?_, hq⟩
  rw [← gq_of (by omega) t1 h1 h2]
theorem gq_is {T V : Int} (hT : 0 ≤ T) (hV : 0 < V) : 0 ≤ gq T V ∧ gq T V < 18446744073709551616 ∧ gq T V * V ≤ T ∧ (gq T V = 18446744073709551615 ∨ T < (gq T V + 1) * V) := by
  have e1 := Int.mul_ediv_add_emod T V
  have e2 := Int.emod_nonneg T (show V ≠ 0 by omega)
  have e3 := Int.emod_lt_of_pos T hV
  have e4 : 0 ≤ T / V := Int.ediv_nonneg hT (by omega)
  have e5 : T / V * V = V * (T / V) := Int.mul_comm _ _
  unfold gq
  split
  · exact ⟨e4, by omega, by omega, .inr (by rw [Int.add_mul]; omega)⟩
  · refine ⟨by decide, by decide, ?_, .inl rfl⟩
    have : 18446744073709551615 * V ≤ T / V * V := Int.mul_le_mul_of_nonneg_right (by omega) (by omega)
    omega

theorem top2 (f : Nat → Int) (m : Nat) : vf f (m + 2) = vf f m + (f (m + 1) * 18446744073709551616 + f m) * pw m := by
  rw [vf_succ, vf_succ, pw_succ]; grind
theorem top3 (f : Nat → Int) (m : Nat) : vf f (m + 2 + 1) = vf f m + ((f (m + 2) * 18446744073709551616 + f (m + 1)) * 18446744073709551616 + f m) * pw m := by
  rw [vf_succ, vf_succ, vf_succ, pw_succ (m + 1), pw_succ m]; grind

/-- A guess by the highest limbs is right or one too great. -/
theorem div_range {lu lv T V2 t p U V : Int} (hU : U = lu + T * p) (hV : V = lv + V2 * p) (a0 : 0 ≤ lu) (a1 : lu < p) (b0 : 0 ≤ lv) (b1 : lv < p) (hUV : U < V * 18446744073709551616) (hV2 : 18446744073709551616 ≤ V2) (t0 : 0 ≤ t) (t1 : t < 18446744073709551616) (h1 : t * V2 ≤ T) (h2 : t = 18446744073709551615 ∨ T < (t + 1) * V2) :
    U < (t + 1) * V ∧ (t - 1) * V ≤ U := by
  have hp : 0 < p := by omega
  constructor
  · rcases h2 with rfl | h2
    · omega
    · have e1 : (T + 1) * p ≤ (t + 1) * V2 * p := Int.mul_le_mul_of_nonneg_right (by omega) (Int.le_of_lt hp)
      have e2 : 0 ≤ (t + 1) * lv := Int.mul_nonneg (by omega) b0
      rw [hV, Int.mul_add, ← Int.mul_assoc, hU]
      rw [Int.add_mul, Int.one_mul] at e1
      omega
  · have hT : 0 ≤ T := Int.le_trans (Int.mul_nonneg t0 (by omega)) h1
    have hTp : 0 ≤ T * p := Int.mul_nonneg hT (Int.le_of_lt hp)
    by_cases h0 : t = 0
    · subst h0
      have : 0 ≤ V2 * p := Int.mul_nonneg (by omega) (Int.le_of_lt hp)
      omega
    · have e1 : (t - 1) * V ≤ (t - 1) * ((V2 + 1) * p) := Int.mul_le_mul_of_nonneg_left (by rw [Int.add_mul, Int.one_mul]; omega) (by omega)
      have e2 : (t - 1) * (V2 + 1) = t * V2 + t - V2 - 1 := by grind
      have e3 : (t - 1) * (V2 + 1) * p ≤ T * p := Int.mul_le_mul_of_nonneg_right (by rw [e2]; omega) (Int.le_of_lt hp)
      rw [← Int.mul_assoc] at e1
      omega

theorem only_drewN {g : Nat} {a w : World} (h : Only g a w) (q : Nat) : Only g a (w.drewN q) := ⟨h.os, h.tape, h.output, h.size, h.block⟩

/-- What takeOut leaves. -/
structure Took (g o n N : Nat) (f : Nat → Int) (w w' : World) (V t : Int) : Prop where
  t0 : 0 ≤ t
  t1 : t < 18446744073709551616
  only : Only g w w'
  res : ∃ f', Blk .u64 28 w' g N f' ∧ Lm f' N ∧ (∀ j, j < o ∨ o + (n + 1) ≤ j → f' j = f j) ∧ vf (sh f' o) (n + 1) = vf (sh f o) (n + 1) - t * V ∧ vf (sh f' o) (n + 1) < V

set_option maxRecDepth 100000 in
set_option maxHeartbeats 4000000 in
theorem takeOut_c (g o n cap N : Nat) (f : Nat → Int) (b ob cb : Nat) (h : Nat → Int) (w : World) (hb : Blk .u64 28 w g N f) (hf : Lm f N) (ho : o + (n + 1) ≤ N) (hN : N ≤ 17592186044416) (hcap : n + 1 ≤ cap) (hcm : cap ≤ 17592186044416)
    (hr : Rd .u64 w (some ⟨b, ob, none⟩) n h) (hh : Lm h n) (hoff : b ≠ g) (hn2 : 2 ≤ n) (htop : 9223372036854775808 ≤ h (n - 1)) (hUV : vf (sh f o) (n + 1) < vf h n * 18446744073709551616) :
    Calls Tryz.prog 154 #[.slice (some ⟨g, o, none⟩) (n + 1) cap, .slice (some ⟨b, ob, none⟩) n cb] w fun e w' => ∃ t, e = .returned (.int .u64 t) ∧ Took g o n N f w w' (vf h n) t := by
  obtain ⟨m, rfl⟩ : ∃ m, n = m + 2 := ⟨n - 2, by omega⟩
  obtain ⟨x2, hx2⟩ : ∃ x, f (o + (m + 2)) = x := ⟨_, rfl⟩
  obtain ⟨x1, hx1⟩ : ∃ x, f (o + (m + 1)) = x := ⟨_, rfl⟩
  obtain ⟨x0, hx0⟩ : ∃ x, f (o + m) = x := ⟨_, rfl⟩
  obtain ⟨y1, hy1⟩ : ∃ x, h (m + 1) = x := ⟨_, rfl⟩
  obtain ⟨y0, hy0⟩ : ∃ x, h m = x := ⟨_, rfl⟩
  have hcx2 : w.cell? ⟨g, o + (m + 2), none⟩ = some (.int .u64 x2) := by rw [← hx2]; exact hb.cell (by omega)
  have hcx1 : w.cell? ⟨g, o + (m + 1), none⟩ = some (.int .u64 x1) := by rw [← hx1]; exact hb.cell (by omega)
  have hcx0 : w.cell? ⟨g, o + m, none⟩ = some (.int .u64 x0) := by rw [← hx0]; exact hb.cell (by omega)
  have hcy1 : w.cell? ⟨b, ob + (m + 1), none⟩ = some (.int .u64 y1) := by rw [← hy1]; exact hr.cell (by omega)
  have hcy0 : w.cell? ⟨b, ob + m, none⟩ = some (.int .u64 y0) := by rw [← hy0]; exact hr.cell (by omega)
  have bx2 := hf (o + (m + 2)) (by omega)
  have bx1 := hf (o + (m + 1)) (by omega)
  have bx0 := hf (o + m) (by omega)
  have by1 := hh (m + 1) (by omega)
  have by0 := hh m (by omega)
  rw [hx2] at bx2; rw [hx1] at bx1; rw [hx0] at bx0; rw [hy1] at by1; rw [hy0] at by0
  have htop' : 9223372036854775808 ≤ y1 := by rw [← hy1]; exact htop
  have hU := top3 (sh f o) m
  have hV := top2 h m
  simp only [sh_at] at hU
  rw [hx2, hx1, hx0] at hU
  rw [hy1, hy0] at hV
  have lu0 := vf_nonneg (hf.sh (o := o) (m := m) (by omega))
  have lu1 := vf_lt (hf.sh (o := o) (m := m) (by omega))
  have lv0 := vf_nonneg (hh.mono (m := m) (by omega))
  have lv1 := vf_lt (hh.mono (m := m) (by omega))
  have hV0 := vf_nonneg hh
  have hV1 := vf_lt hh
  have hx2y1 : x2 ≤ y1 := by
    apply Int.le_of_lt_add_one
    have p0 := pw_pos m
    have e1 : ((x2 * 18446744073709551616 + x1) * 18446744073709551616 + x0) * pw m < ((y1 + 1) * 18446744073709551616 * 18446744073709551616) * pw m := by
      have a2 : (y1 * 18446744073709551616 + y0 + 1) * pw m ≤ ((y1 + 1) * 18446744073709551616) * pw m := Int.mul_le_mul_of_nonneg_right (by omega) (Int.le_of_lt p0)
      rw [Int.add_mul _ 1, Int.one_mul] at a2
      have a3 : ((y1 + 1) * 18446744073709551616 * 18446744073709551616) * pw m = ((y1 + 1) * 18446744073709551616) * pw m * 18446744073709551616 := by grind
      rw [a3]
      omega
    have e2 := Int.lt_of_mul_lt_mul_right e1 (Int.le_of_lt p0)
    omega
  obtain ⟨T, hT⟩ : ∃ T, (x2 * 18446744073709551616 + x1) * 18446744073709551616 + x0 = T := ⟨_, rfl⟩
  obtain ⟨V2, hV2⟩ : ∃ V2, y1 * 18446744073709551616 + y0 = V2 := ⟨_, rfl⟩
  have cg := fun W => guess_q x2 x1 x0 y1 y0 W bx2.1 hx2y1 bx1.1 bx1.2 bx0.1 bx0.2 by0.1 by0.2 (by omega) by1.2
  have hgi := gq_is (T := T) (V := V2) (by omega) (by omega)
  rw [hT] at hU cg
  rw [hV2] at hV cg
  obtain ⟨t, ht⟩ : ∃ t, gq T V2 = t := ⟨_, rfl⟩
  rw [ht] at cg hgi
  obtain ⟨t0, t1, ht1, ht2⟩ := hgi
  have hrange := div_range hU hV lu0 lu1 lv0 lv1 hUV (by omega) t0 t1 ht1 ht2
  have CG := hid cg; have RNG := hid hrange; have HB := hid hb; have HF := hid hf; have HR := hid hr; have HH := hid hh; have HX2 := hid hx2
  have hfz := hb.frozen (o + (m + 2))
  have BV0 := hid hV0; have BV1 := hid hV1
  clear cg hrange hb hf hr hh hT hV2 ht ht1 ht2 hU hV lu0 lu1 lv0 lv1 hUV hx2 hx1 hx0 hy1 hy0 htop hV0 hV1
  have i1 : ((m + 2 : Nat) : Int) < ((m + 2 + 1 : Nat) : Int) := by omega
  obtain ⟨bx2a, bx2b⟩ := bx2
  go_enter Tryz.func154, Tryz.ntmps154
  go_wp2
  go_quiet ((go_at_call 180; exact (CG.out _).mono (fun _ _ h => ⟨h.1, (by obtain ⟨q, hq⟩ := h.2; exact ⟨_, by rw [hq, World.drewN_drewN]⟩)⟩)))
  go_wp2_with fail
  refine (mulSubFrom_c g o (m + 2 + 1) cap N f (some ⟨b, ob, none⟩) (m + 2) cb h t (w.drewN _) HB.out HF.out ho HR.out HH.out (fun _ => off_some hoff) (by omega) hcap (by omega) t0 t1).mono ?_
  rintro e w1 ⟨ov, rfl, v0, v1, hon1, f1, hb1, hl1, he1, hv1⟩
  have HV1 := hid hv1
  have hx2' : f1 (o + (m + 2)) = x2 := (he1 _ (by omega)).trans HX2.out
  have hcx2' : w1.cell? ⟨g, o + (m + 2), none⟩ = some (.int .u64 x2) := by rw [← hx2']; exact hb1.cell (by omega)
  have hfz1 := hb1.frozen (o + (m + 2))
  have HX2' := hid hx2'
  have HE1 := hid he1; have HL1 := hid hl1; have HB1 := hid hb1
  clear hv1 hx2' he1 hl1 hb1 hcx2 hcx1 hcx0 hcy1 hcy0 hfz
  have n1 := vf_nonneg (HL1.out.sh (o := o) (m := m + 2) (by omega))
  have n2 := vf_lt (HL1.out.sh (o := o) (m := m + 2) (by omega))
  have N1 := hid n1; have N2 := hid n2
  clear n1 n2
  have hUe : vf (sh f o) (m + 2 + 1) = vf (sh f o) (m + 2) + x2 * pw (m + 2) := by rw [vf_succ, sh_at, HX2.out]
  have hmain : vf (sh f1 o) (m + 2) + (x2 - ov) * pw (m + 2) = vf (sh f o) (m + 2 + 1) - t * vf h (m + 2) := by
    have := HV1.out
    rw [hUe, Int.sub_mul, Int.mul_comm t]; omega
  have HMain := hid hmain
  have U0 := hid (vf_nonneg (HF.out.sh (o := o) (m := m + 2 + 1) (by omega)))
  have PW := hid (pw_pos (m + 2))
  have hupd : ∀ z, vf (sh (upd f1 (o + (m + 2)) z) o) (m + 2 + 1) = vf (sh f1 o) (m + 2) + z * pw (m + 2) := fun z => by
    rw [vf_succ, sh_at, upd_same, vf_congr (f := sh (upd f1 (o + (m + 2)) z) o) (g := sh f1 o) (fun j hj => upd_other _ _ _ _ (by omega))]
  have HUpd := hid hupd
  clear hUe hmain hupd CG
  by_cases hs : x2 < ov
  · have hneg : vf (sh f o) (m + 2 + 1) - t * vf h (m + 2) < 0 := by
      rw [← HMain.out]
      have := N2.out
      have e : (x2 - ov) * pw (m + 2) ≤ (-1) * pw (m + 2) := Int.mul_le_mul_of_nonneg_right (by omega) (Int.le_of_lt PW.out)
      omega
    have ht : 0 < t := by
      apply Int.lt_of_not_ge
      intro h0
      obtain rfl : t = 0 := by omega
      have := U0.out
      omega
    obtain ⟨s, rfl⟩ : ∃ s, t = s + 1 := ⟨t - 1, by omega⟩
    have hs1 : s + 1 - 1 = s := by omega
    have hw : IntKind.u64.wrap (x2 - ov) = x2 - ov + 18446744073709551616 := by rw [IntKind.wrap_u64]; omega
    have hsb : decide (x2 < ov) = true := by simp [hs]
    have hw2 : IntKind.u64.wrap (s + 1 - 1) = s := by rw [IntKind.wrap_u64]; omega
    have HNeg := hid hneg
    clear hneg
    go_wp2_with fail
    refine (addTo_g g o (m + 2 + 1) cap N _ (some ⟨b, ob, none⟩) (m + 2) cb h _ (HB1.out.set _ _) (HL1.out.upd (by omega)) ho (by omega) ((HR.out.only (only_drewN (Only.refl g w) _) (off_some hoff)).only (hon1.trans ((Only.refl _ _).setCell _ _ _)) (off_some hoff)) HH.out (fun _ => off_some hoff) (by omega) hcap (by omega)).mono ?_
    rintro e w2 ⟨rfl, hon2, f3, c, hb3, hl3, he3, hc0, hv3⟩
    have HV3 := hid hv3; have HB3 := hid hb3; have HL3 := hid hl3; have HE3 := hid he3
    clear hv3 hb3 hl3 he3
    go_wp2
    go_ret
    have r1 := RNG.out
    have r2 := HNeg.out
    have a1 := HV3.out
    rw [HUpd.out, Int.add_mul (x2 - ov), ← Int.add_assoc, HMain.out, ← pw_succ (m + 2)] at a1
    rw [show s + 1 - 1 = s by omega] at r1
    have a2 := vf_nonneg (HL3.out.sh (o := o) (m := m + 2 + 1) (by omega))
    have a3 := vf_lt (HL3.out.sh (o := o) (m := m + 2 + 1) (by omega))
    have a4 : (s + 1) * vf h (m + 2) = s * vf h (m + 2) + vf h (m + 2) := by rw [Int.add_mul, Int.one_mul]
    have a5 : (s + 1 + 1) * vf h (m + 2) = s * vf h (m + 2) + vf h (m + 2) + vf h (m + 2) := by rw [Int.add_mul, Int.add_mul, Int.one_mul]
    have a6 : pw (m + 2) < pw (m + 2 + 1) := by have := pw_pos (m + 2); rw [pw_succ (m + 2)]; omega
    have a7 := BV1.out
    have a8 := pw_pos (m + 2 + 1)
    have hc1 : c = 1 := by
      have hc2 : c < 2 := by
        apply Int.lt_of_not_ge; intro hc
        have : 2 * pw (m + 2 + 1) ≤ c * pw (m + 2 + 1) := Int.mul_le_mul_of_nonneg_right hc (Int.le_of_lt a8)
        omega
      have hc3 : c ≠ 0 := by
        rintro rfl
        omega
      omega
    subst hc1
    refine ⟨s, rfl, by omega, by omega, ((only_drewN (Only.refl g w) _).trans hon1).trans (((Only.refl _ _).setCell _ _ _).trans hon2), f3, HB3.out, HL3.out, fun j hj => ?_, by omega, by omega⟩
    rw [HE3.out j hj, upd_other _ _ _ _ (by omega), HE1.out j (by omega)]
  · have hw : IntKind.u64.wrap (x2 - ov) = x2 - ov := by rw [IntKind.wrap_u64]; omega
    have hsb : decide (x2 < ov) = false := by simp; omega
    go_wp2
    go_ret
    have r1 := RNG.out
    have a0 := HMain.out
    have a1 := HUpd.out (x2 - ov)
    have a4 : (t + 1) * vf h (m + 2) = t * vf h (m + 2) + vf h (m + 2) := by rw [Int.add_mul, Int.one_mul]
    refine ⟨t, rfl, t0, t1, ((only_drewN (Only.refl g w) _).trans hon1).trans ((Only.refl _ _).setCell _ _ _), upd f1 (o + (m + 2)) (x2 - ov), HB1.out.set _ _, HL1.out.upd (by omega), fun j hj => ?_, by omega, by omega⟩
    rw [upd_other _ _ _ _ (by omega), HE1.out j (by omega)]
end Go.Proofs.YtclopblgdiahiaaGreatDoor
namespace Go.Proofs.YtclopblgdiahiaaGreatDoor
open Go.RowKit

/-- The value of the first n limbs. -/
def pd : Nat → Int | 0 => 1 | n + 1 => 4294967296 * pd n
def vd (f : Nat → Int) : Nat → Int | 0 => 0 | n + 1 => vd f n + f n * pd n
/-- Each of the first n is a limb. -/
def Dg (f : Nat → Int) (n : Nat) : Prop := ∀ j, j < n → 0 ≤ f j ∧ f j < 4294967296
theorem pd_pos (n : Nat) : 0 < pd n := by induction n with | zero => decide | succ n ih => simp only [pd]; omega
theorem pd_succ (n : Nat) : pd (n + 1) = 4294967296 * pd n := rfl
theorem pd_add (m n : Nat) : pd (m + n) = pd m * pd n := by
  induction n with
  | zero => simp [pd]
  | succ n ih => rw [← Nat.add_assoc, pd_succ, ih, pd_succ]; grind
theorem vd_succ (f : Nat → Int) (n : Nat) : vd f (n + 1) = vd f n + f n * pd n := rfl
theorem vd_congr {f g : Nat → Int} {n : Nat} (h : ∀ j, j < n → f j = g j) : vd f n = vd g n := by
  induction n with
  | zero => rfl
  | succ n ih => rw [vd_succ, vd_succ, ih (fun j hj => h j (by omega)), h n (by omega)]
theorem Dg.mono {f n m} (h : Dg f n) (hm : m ≤ n) : Dg f m := fun j hj => h j (by omega)
theorem Dg.congr {f g : Nat → Int} {n : Nat} (h : Dg f n) (he : ∀ j, j < n → f j = g j) : Dg g n := fun j hj => by rw [← he j hj]; exact h j hj
theorem Dg.upd {f n} (h : Dg f n) {i : Nat} {v : Int} (hv : 0 ≤ v ∧ v < 4294967296) : Dg (upd f i v) n := fun j hj => by
  by_cases hji : j = i
  · subst hji; rw [upd_same]; exact hv
  · rw [upd_other _ _ _ _ hji]; exact h j hj
theorem Dg.sh {f n} (h : Dg f n) {o m : Nat} (hm : o + m ≤ n) : Dg (sh f o) m := fun j hj => h (o + j) (by omega)
theorem vd_nonneg {f : Nat → Int} {n : Nat} (h : Dg f n) : 0 ≤ vd f n := by
  induction n with
  | zero => simp [vd]
  | succ n ih =>
    have h1 := ih (h.mono (by omega))
    have h2 := Int.mul_nonneg (h n (by omega)).1 (Int.le_of_lt (pd_pos n))
    rw [vd_succ]; omega
theorem vd_lt {f : Nat → Int} {n : Nat} (h : Dg f n) : vd f n < pd n := by
  induction n with
  | zero => simp [vd, pd]
  | succ n ih =>
    have h1 := ih (h.mono (by omega))
    have h2 : (f n + 1) * pd n ≤ 4294967296 * pd n := Int.mul_le_mul_of_nonneg_right (by have := (h n (by omega)).2; omega) (Int.le_of_lt (pd_pos n))
    rw [Int.add_mul, Int.one_mul] at h2
    rw [vd_succ, pd_succ]; omega
/-- A number cut in two. -/
theorem vd_split (f : Nat → Int) (m n : Nat) : vd f (m + n) = vd f m + vd (sh f m) n * pd m := by
  induction n with
  | zero => simp [vd]
  | succ n ih => rw [← Nat.add_assoc, vd_succ, ih, vd_succ, pd_add, sh_at]; grind
theorem vd_zero {f : Nat → Int} {n : Nat} (h : ∀ j, j < n → f j = 0) : vd f n = 0 := by
  induction n with
  | zero => rfl
  | succ n ih => rw [vd_succ, ih (fun j hj => h j (by omega)), h n (by omega)]; simp
/-- Noughts at the end count nothing. -/
theorem vd_ext {f : Nat → Int} {m n : Nat} (hm : m ≤ n) (h : ∀ j, m ≤ j → j < n → f j = 0) : vd f n = vd f m := by
  obtain ⟨d, rfl⟩ := Nat.exists_eq_add_of_le hm
  rw [vd_split, vd_zero (f := sh f m) (fun j hj => h _ (by omega) (by omega))]; simp
theorem vd_form_ge {f : Nat → Int} {n : Nat} (h : Dg f n) (hf : Fm f n) (hn : 0 < n) : pd (n - 1) ≤ vd f n := by
  obtain ⟨m, rfl⟩ : ∃ m, n = m + 1 := ⟨n - 1, by omega⟩
  have h0 := vd_nonneg (h.mono (m := m) (by omega))
  have h1 := h m (by omega)
  have h2 : f m ≠ 0 := by rcases hf with h | h; omega; simpa using h
  have h3 : 1 * pd m ≤ f m * pd m := Int.mul_le_mul_of_nonneg_right (by omega) (Int.le_of_lt (pd_pos m))
  rw [vd_succ]; simp at h3 ⊢; omega
theorem pd_mono {m n : Nat} (h : m ≤ n) : pd m ≤ pd n := by
  induction n with
  | zero => obtain rfl : m = 0 := by omega
            exact Int.le_refl _
  | succ n ih =>
    by_cases hm : m = n + 1
    · subst hm; exact Int.le_refl _
    · have := ih (by omega); have := pd_pos n; rw [pd_succ]; omega
/-- One number, one list (of one length). -/
theorem vd_inj_same {f g : Nat → Int} {n : Nat} (hf : Dg f n) (hg : Dg g n) (h : vd f n = vd g n) : ∀ j, j < n → f j = g j := by
  induction n with
  | zero => intro j hj; omega
  | succ n ih =>
    have a1 := vd_nonneg (hf.mono (m := n) (by omega)); have a2 := vd_lt (hf.mono (m := n) (by omega))
    have b1 := vd_nonneg (hg.mono (m := n) (by omega)); have b2 := vd_lt (hg.mono (m := n) (by omega))
    rw [vd_succ, vd_succ] at h
    have hp := pd_pos n
    have e : f n = g n := by
      rcases Int.lt_trichotomy (f n) (g n) with hl | hl | hl
      · have : (f n + 1) * pd n ≤ g n * pd n := Int.mul_le_mul_of_nonneg_right (by omega) (Int.le_of_lt hp)
        rw [Int.add_mul, Int.one_mul] at this; omega
      · exact hl
      · have : (g n + 1) * pd n ≤ f n * pd n := Int.mul_le_mul_of_nonneg_right (by omega) (Int.le_of_lt hp)
        rw [Int.add_mul, Int.one_mul] at this; omega
    have hr := ih (hf.mono (by omega)) (hg.mono (by omega)) (by rw [e] at h; omega)
    intro j hj
    by_cases hjn : j = n
    · subst hjn; exact e
    · exact hr j (by omega)
theorem vd_len {f g : Nat → Int} {n m : Nat} (hf : Dg f n) (hg : Dg g m) (ff : Fm f n) (h : vd f n ≤ vd g m) : n ≤ m := by
  apply Nat.le_of_not_lt
  intro hlt
  have h1 := vd_form_ge hf ff (by omega)
  have h2 := vd_lt hg
  have h3 := pd_mono (m := m) (n := n - 1) (by omega)
  omega
/-- One number, one list in form. -/
theorem vd_inj {f g : Nat → Int} {n m : Nat} (hf : Dg f n) (hg : Dg g m) (ff : Fm f n) (fg : Fm g m) (h : vd f n = vd g m) : n = m ∧ ∀ j, j < n → f j = g j := by
  have e : n = m := Nat.le_antisymm (vd_len hf hg ff (by omega)) (vd_len hg hf fg (by omega))
  subst e
  exact ⟨rfl, vd_inj_same hf hg h⟩
/-- The trimmed list. -/
theorem trim_vald {f : Nat → Int} {m n : Nat} (hm : m ≤ n) (hz : ∀ j, m ≤ j → j < n → f j = 0) : vd f m = vd f n := (vd_ext hm hz).symm
end Go.Proofs.YtclopblgdiahiaaGreatDoor
namespace Go.Proofs.YtclopblgdiahiaaGreatDoor
open Go.RowKit

theorem pw_pow (k : Nat) : pw k = 2 ^ (64 * k) := by
  induction k with
  | zero => rfl
  | succ k ih => rw [pw_succ, ih, show 64 * (k + 1) = 64 * k + 64 by omega, Int.pow_add, Int.mul_comm]; rfl
theorem pd_pow (k : Nat) : pd k = 2 ^ (32 * k) := by
  induction k with
  | zero => rfl
  | succ k ih => rw [pd_succ, ih, show 32 * (k + 1) = 32 * k + 32 by omega, Int.pow_add, Int.mul_comm]; rfl

/-- A limb times P, cut in two (P * Q = 2^64). -/
theorem limb_cut {x P Q : Int} (x0 : 0 ≤ x) (x1 : x < 18446744073709551616) (hPQ : P * Q = 18446744073709551616) (p0 : 0 < P) (q0 : 0 < Q) :
    (x * P) % 18446744073709551616 = (x % Q) * P ∧ 0 ≤ x / Q ∧ x / Q < P ∧ 0 ≤ (x % Q) * P ∧ (x % Q) * P ≤ 18446744073709551616 - P := by
  have e1 : (x * P) % 18446744073709551616 = (x % Q) * P := by rw [← hPQ, Int.mul_comm x P, Int.mul_emod_mul_of_pos _ _ p0, Int.mul_comm]
  refine ⟨e1, Int.ediv_nonneg x0 (Int.le_of_lt q0), ?_, Int.mul_nonneg (Int.emod_nonneg _ (by omega)) (Int.le_of_lt p0), ?_⟩
  · exact Int.ediv_lt_of_lt_mul q0 (by rw [hPQ]; exact x1)
  · have h1 := Int.emod_lt_of_pos x q0
    have h2 : (x % Q + 1) * P ≤ Q * P := Int.mul_le_mul_of_nonneg_right (by omega) (Int.le_of_lt p0)
    rw [Int.add_mul, Int.one_mul, Int.mul_comm Q P, hPQ] at h2
    omega

/-- One round of a shift to the left. -/
theorem shl_step {F a : Nat → Int} {o k : Nat} {P Q x y : Int} (hv : vf (sh F o) (k + 1) = vf a k * P) (hx : a k = x) (hy : F (o + k) = y) (hPQ : P * Q = 18446744073709551616) :
    vf (sh (upd (upd F (o + k) (y + x % Q * P)) (o + k + 1) (x / Q)) o) (k + 1 + 1) = vf a (k + 1) * P := by
  have e1 : vf (sh (upd (upd F (o + k) (y + x % Q * P)) (o + k + 1) (x / Q)) o) k = vf (sh F o) k := vf_congr (fun j hj => by rw [sh_at, sh_at, upd_other _ _ _ _ (by omega), upd_other _ _ _ _ (by omega)])
  have e2 : sh (upd (upd F (o + k) (y + x % Q * P)) (o + k + 1) (x / Q)) o k = y + x % Q * P := by rw [sh_at, upd_other _ _ _ _ (by omega), upd_same]
  have e3 : sh (upd (upd F (o + k) (y + x % Q * P)) (o + k + 1) (x / Q)) o (k + 1) = x / Q := by rw [sh_at, ← Nat.add_assoc, upd_same]
  rw [vf_succ, vf_succ, e1, e2, e3, vf_succ, pw_succ]
  rw [vf_succ, sh_at, hy] at hv
  have e4 := Int.mul_ediv_add_emod x Q
  rw [hx, ← hPQ]
  have e5 : x * pw k * P = (Q * (x / Q) + x % Q) * pw k * P := by rw [e4]
  rw [Int.add_mul (vf a k), e5, ← hv]
  grind

/-- What a list reads from place o on, noughts ahead of it. -/
theorem vf_ahead {F : Nat → Int} {o n : Nat} (h : ∀ j, j < o → F j = 0) : vf F (o + n) = vf (sh F o) n * pw o := by
  rw [vf_split, vf_zero h]; omega

/-- One round of a shift to the left, on digits. -/
theorem dshl_step {D a : Nat → Int} {o k : Nat} {P x c : Int} (hv : vd D (o + k) + c * pd (o + k) = vd a k * (P * pd o)) (hx : a k = x) :
    vd (cat D (o + k) (fun _ => (c + x * P) % 4294967296)) (o + k + 1) + ((c + x * P) / 4294967296) * pd (o + k + 1) = vd a (k + 1) * (P * pd o) := by
  have e1 : vd (cat D (o + k) (fun _ => (c + x * P) % 4294967296)) (o + k) = vd D (o + k) := vd_congr (fun j hj => cat_in hj)
  have e2 : cat D (o + k) (fun _ => (c + x * P) % 4294967296) (o + k) = (c + x * P) % 4294967296 := cat_out (Nat.le_refl _)
  rw [vd_succ, e1, e2, pd_succ, vd_succ, hx]
  have e3 := Int.mul_ediv_add_emod (c + x * P) 4294967296
  have e4 : (c + x * P) * pd (o + k) = (4294967296 * ((c + x * P) / 4294967296) + (c + x * P) % 4294967296) * pd (o + k) := by rw [e3]
  rw [Int.add_mul (vd a k), ← hv]
  have e5 : x * pd k * (P * pd o) = x * P * pd (o + k) := by rw [pd_add]; grind
  rw [e5]
  grind
theorem dshl_carry {P x c : Int} (c0 : 0 ≤ c) (c1 : c < P) (x0 : 0 ≤ x) (x1 : x < 4294967296) (p0 : 0 < P) : 0 ≤ c + x * P ∧ c + x * P < 4294967296 * P ∧ (c + x * P) / 4294967296 < P ∧ 0 ≤ x * P ∧ x * P < 4294967296 * P := by
  have h1 : 0 ≤ x * P := Int.mul_nonneg x0 (Int.le_of_lt p0)
  have h2 : (x + 1) * P ≤ 4294967296 * P := Int.mul_le_mul_of_nonneg_right (by omega) (Int.le_of_lt p0)
  rw [Int.add_mul, Int.one_mul] at h2
  refine ⟨by omega, by omega, ?_, h1, by omega⟩
  exact Int.ediv_lt_of_lt_mul (by decide) (by omega)

/-- 'make([]T, l, c)': a block of c noughts. -/
theorem wpList_make_two {P : Program} (k : IntKind) (w : World) {ops : Array Oper} {rest : List Oper} {o : Oper} {a : Act} {Q : Exit → Act → World → Prop}
    (hg : o.guard = none) (lo co : Operand) (t : TypeId) (hop : o.op = Op.makeSlice t lo co)
    (e : TypeId) (bytes : Nat) (h1 : P.underlying t = some (.slice e)) (h2 : (P.info? e).map (fun i => (i.zero, i.size, i.bytes)) = some (some (.int k 0), 1, bytes))
    (kl kc : IntKind) (L C : Int) (l c : Nat) (hl : a.eval lo = .int kl L) (hc : a.eval co = .int kc C) (hL : L = (l : Int)) (hC : C = (c : Int)) (hlc : l ≤ c) (b2 : bytes * c ≤ 281474976710656) (b3 : c ≤ maxLen)
    (hK : ∀ w', Blk k e w' w.heap.size c (fun _ => 0) → Below w.heap.size w w' → wpList P ops Q rest (a.put o.dst (.slice (some ⟨w.heap.size, 0, none⟩) l c)) w') :
    wpList P ops Q (o :: rest) a w := by
  obtain ⟨i, hi, hz0, hz1, hz2⟩ := info_parts h2
  subst hL
  subst hC
  refine wpList_plain hg fun K hK' => ?_
  have b2' : (i.bytes : Int) * (c : Int) ≤ 281474976710656 := by
    have h : ((i.bytes * c : Nat) : Int) ≤ 281474976710656 := by rw [hz2]; omega
    rwa [Int.natCast_mul] at h
  have hrun := run_make (P := P) w t e i (.int k 0) h1 hi hz0 kl kc (l : Int) (c : Int) (by omega) (by omega) b2' (by unfold maxLen at b3; omega)
  simp only [Int.toNat_natCast, hz1, Nat.mul_one] at hrun
  unfold Oper.wp
  simp [execOp, hop, hl, hc, hrun, Result.andThen]
  refine hK' _ _ (hK _ ⟨_, heap_alloc_new w _, size_madeCells _ _, fun j hj => ?_⟩ ((Below.refl _ _).alloc (Nat.le_refl _) _))
  have hm : (madeCells (Value.int k 0).cells c).toList = List.replicate c (.int k 0) := toList_madeCells_one _ _
  have : (madeCells (Value.int k 0).cells c).toList[j]? = some (.int k 0) := by rw [hm, List.getElem?_replicate, if_pos hj]
  simpa using this
end Go.Proofs.YtclopblgdiahiaaGreatDoor
namespace Go.Proofs.YtclopblgdiahiaaGreatDoor
open Go.RowKit

theorem or_comm64 (x y : Int) : bits BinOp.or .u64 x y = bits BinOp.or .u64 y x := by simp only [bits]; rw [BitVec.or_comm]

/-- The numbers of one round of shl. -/
theorem shl_nums (x y s : Int) (x0 : 0 ≤ x) (x1 : x < 18446744073709551616) (s0 : 0 ≤ s) (s1 : s ≤ 63) (y0 : 0 ≤ y) (y1 : y < 2 ^ s.toNat) :
    ∃ L Z H, IntKind.u64.wrap (x * 2 ^ s.toNat) = L ∧ 0 ≤ L ∧ L < 18446744073709551616 ∧ bits BinOp.or .u64 y L = Z ∧ 0 ≤ Z ∧ Z < 18446744073709551616 ∧ x / 2 ^ (64 - s).toNat = H ∧ 0 ≤ H ∧ H < 18446744073709551616 ∧ Hid (H < 2 ^ s.toNat) ∧ Hid (Z = y + x % 2 ^ (64 - s).toNat * 2 ^ s.toNat) := by
  have hPQ : (2 : Int) ^ s.toNat * 2 ^ (64 - s).toNat = 18446744073709551616 := by rw [← Int.pow_add, show s.toNat + (64 - s).toNat = 64 by omega]; rfl
  have p0 : (0 : Int) < 2 ^ s.toNat := Int.pow_pos (by decide)
  have q0 : (0 : Int) < 2 ^ (64 - s).toNat := Int.pow_pos (by decide)
  obtain ⟨c1, c2, c3, c4, c5⟩ := limb_cut x0 x1 hPQ p0 q0
  have hP : (2 : Int) ^ s.toNat ≤ 18446744073709551616 := by
    rw [← hPQ]
    have := Int.mul_le_mul_of_nonneg_left (show (1 : Int) ≤ 2 ^ (64 - s).toNat by omega) (Int.le_of_lt p0)
    omega
  have hL : IntKind.u64.wrap (x * 2 ^ s.toNat) = x % 2 ^ (64 - s).toNat * 2 ^ s.toNat := by rw [IntKind.wrap_u64, c1]
  refine ⟨_, _, _, hL, c4, by omega, ?_, ?_, ?_, rfl, c2, by omega, c3, rfl⟩
  · rw [or_comm64 y, bits_join .u64 64 (by decide) wraps_u64 s.toNat _ _ c4 (Int.mul_emod_left _ _) (by omega) y0 y1 (by omega), Int.add_comm]
  · omega
  · omega

set_option maxRecDepth 100000 in
set_option maxHeartbeats 1000000 in
/-- shl: a * 2^(64 * skip + s). -/
theorem shl_c (ao : Option Addr) (n cap skip : Nat) (z s : Int) (f : Nat → Int) (w : World) (hn : n ≤ 8796093022208) (hk : skip ≤ 1048576) (s0 : 0 ≤ s) (s1 : s ≤ 63) (hz : z = 64 * skip + s) (hr : Rd .u64 w ao n f) (hf : Lm f n) :
    Calls Tryz.prog 153 #[.slice ao n cap, .int .i64 z] w fun e w' => ∃ ao' m cap' f', e = .returned (.slice ao' m cap') ∧ Res (skip + n + 1) w w' ao' m cap' f' ∧ vf f' m = vf f n * 2 ^ s.toNat * pw skip := by
  have HF := hid hf
  have HRd := hid hr
  clear hf hr
  have z0 : 0 ≤ z := by omega
  have z1 : z ≤ 67108927 := by omega
  have h1 : z / 64 = (skip : Int) := by omega
  have h2 : z % 64 = s := by omega
  have h3 : Int.tdiv z 64 = (skip : Int) := by rw [Int.tdiv_eq_ediv_of_nonneg z0]; exact h1
  have h4 : Int.tmod z 64 = s := by rw [Int.tmod_eq_emod_of_nonneg z0]; exact h2
  clear hz
  go_enter Tryz.func153, Tryz.ntmps153
  go_wp2_with (at_make; refine wpList_make_blk .u64 w rfl (.tmp 17) (.tmp 17) 22 rfl 28 8 Tryz.underlying22 Tryz.infoU64 .i64 .i64 _ _ (skip + n + 1) rfl rfl (by omega) (by omega) (by omega) (by unfold maxLen; omega) ?_; intro w1 hb1 hbel1)
  go_loopw [21] (fun t wr => ∃ (k : Nat) (F : Nat → Int), k ≤ n ∧ t = .int .i64 k ∧ Below w.heap.size w wr ∧ Blk .u64 28 wr w.heap.size (skip + n + 1) F ∧ Hid (Lm F (skip + n + 1)) ∧ Hid (∀ j, j < skip ∨ skip + k < j → F j = 0) ∧ Hid (F (skip + k) < 2 ^ s.toNat) ∧ Hid (vf (sh F skip) (k + 1) = vf f k * 2 ^ s.toNat)) (fun t _ => n - (intOf t).toNat)
  case atStart => exact ⟨0, fun _ => 0, by omega, rfl, hbel1, hb1, fun j hj => ⟨Int.le_refl 0, show (0 : Int) < 18446744073709551616 by decide⟩, fun j hj => rfl, Int.pow_pos (by decide), by simp [Hid, vf, sh]⟩
  case round =>
    clear hb1 hbel1
    obtain ⟨k, F, hkn, rfl, hbel, hbl, HL, HZ, HT, HV⟩ := hrel
    by_cases hlt : k < n
    · have hr := HRd.out
      obtain ⟨b, ob, rfl⟩ := hr.at (by omega)
      obtain ⟨y, hy⟩ : ∃ y, F (skip + k) = y := ⟨_, rfl⟩
      obtain ⟨x, hx⟩ : ∃ x, f k = x := ⟨_, rfl⟩
      have hcell : wr.cell? ⟨w.heap.size, skip + k, none⟩ = some (.int .u64 y) := by rw [← hy]; exact hbl.cell (by omega)
      have hcelb : wr.cell? ⟨b, ob + k, none⟩ = some (.int .u64 x) := by rw [← hx]; exact (hr.below hbel (Nat.le_refl _)).cell hlt
      have hbw : b < w.heap.size := World.block_lt_of_cell? w _ (hr.cell hlt)
      have hfz := hbl.frozen (skip + k)
      have hfz2 := hbl.frozen (skip + k + 1)
      obtain ⟨y0, y1⟩ := HL.out (skip + k) (by omega)
      obtain ⟨x0, x1⟩ := HF.out k hlt
      rw [hx] at x0 x1
      rw [hy] at y0 y1
      obtain ⟨L, Z, H, eL, L0, L1, eZ, Z0, Z1, eH, H0, H1, HH, HZ2⟩ := shl_nums x y s x0 x1 s0 s1 y0 (by rw [← hy]; exact HT.out)
      have HX := hid hx
      have HY := hid hy
      clear hx hy hr
      have hcelb2 : ∀ (v : Value), (wr.setCell ⟨w.heap.size, skip + k, none⟩ v).cell? ⟨b, ob + k, none⟩ = some (.int .u64 x) := fun v => by
        rw [World.cell?_of_block (Below.heap_setCell _ _ _ _ (by simp; omega))]; exact hcelb
      have hcelb3 : ∀ (v : Value), (wr.setCell ⟨w.heap.size, skip + k, none⟩ v).drew.cell? ⟨b, ob + k, none⟩ = some (.int .u64 x) := hcelb2
      have hcell2 : wr.cell? ⟨w.heap.size, skip + k + 1, none⟩ = some (.int .u64 0) := by rw [← HZ.out (skip + k + 1) (by omega)]; exact hbl.cell (by omega)
      go_wp2
      go_region
      all_goals
        go_wp2
        go_roundw
        case rel =>
          refine ⟨k + 1, _, by omega, by go_num, ?_, ((hbl.set (skip + k) Z).set (skip + k + 1) H), ?_, ?_, ?_, ?_⟩
          · exact below_only hbel ((((Only.refl _ _).setCell _ _ _).setCell _ _ _).drew) (Nat.le_refl _) hbel.size
          · exact (HL.out.upd ⟨Z0, Z1⟩).upd ⟨H0, H1⟩
          · intro j hj
            rw [upd_other _ _ _ _ (by omega), upd_other _ _ _ _ (by omega)]
            exact HZ.out j (by omega)
          · show _ < _
            rw [← Nat.add_assoc, upd_same]; exact HH.out
          · have := shl_step (Q := 2 ^ (64 - s).toNat) HV.out HX.out HY.out (by rw [← Int.pow_add, show s.toNat + (64 - s).toNat = 64 by omega]; rfl)
            rw [← HZ2.out, eH] at this
            exact this
        case measure => simp [intOf]; omega
    · have hkn2 : k = n := by omega
      subst hkn2
      go_wp2_with fail
      refine (trim_res w.heap.size (skip + k + 1) (skip + k + 1) F w wr hbel (Nat.le_refl _) hbl (Nat.le_refl _) (by omega) HL.out).mono ?_
      rintro e w3 ⟨rfl, ao2, m, cap2, rfl, hres, hmn, hv⟩
      have HV3 := hid hv
      clear hv
      go_wp2
      go_ret
      refine ⟨ao2, m, cap2, F, rfl, hres, ?_⟩
      rw [HV3.out, Nat.add_assoc, vf_ahead (fun j hj => HZ.out j (.inl hj)), HV.out]
end Go.Proofs.YtclopblgdiahiaaGreatDoor
namespace Go.Proofs.YtclopblgdiahiaaGreatDoor
open Go.RowKit

/-- The numbers of one round of shrBits. -/
theorem shr_nums (x y s : Int) (x0 : 0 ≤ x) (x1 : x < 18446744073709551616) (s0 : 0 ≤ s) (s1 : s ≤ 63) (y0 : 0 ≤ y) (y1 : y < 2 ^ (64 - s).toNat) :
    ∃ L Z H, IntKind.u64.wrap (x * 2 ^ (64 - s).toNat) = L ∧ 0 ≤ L ∧ L < 18446744073709551616 ∧ bits BinOp.or .u64 y L = Z ∧ 0 ≤ Z ∧ Z < 18446744073709551616 ∧ x / 2 ^ s.toNat = H ∧ 0 ≤ H ∧ H < 18446744073709551616 ∧ Hid (H < 2 ^ (64 - s).toNat) ∧ Hid (Z = y + x % 2 ^ s.toNat * 2 ^ (64 - s).toNat) := by
  have hPQ : (2 : Int) ^ (64 - s).toNat * 2 ^ s.toNat = 18446744073709551616 := by rw [← Int.pow_add, show (64 - s).toNat + s.toNat = 64 by omega]; rfl
  have p0 : (0 : Int) < 2 ^ (64 - s).toNat := Int.pow_pos (by decide)
  have q0 : (0 : Int) < 2 ^ s.toNat := Int.pow_pos (by decide)
  obtain ⟨c1, c2, c3, c4, c5⟩ := limb_cut x0 x1 hPQ p0 q0
  have hP : (2 : Int) ^ (64 - s).toNat ≤ 18446744073709551616 := by
    rw [← hPQ]
    have := Int.mul_le_mul_of_nonneg_left (show (1 : Int) ≤ 2 ^ s.toNat by omega) (Int.le_of_lt p0)
    omega
  have hL : IntKind.u64.wrap (x * 2 ^ (64 - s).toNat) = x % 2 ^ s.toNat * 2 ^ (64 - s).toNat := by rw [IntKind.wrap_u64, c1]
  refine ⟨_, _, _, hL, c4, by omega, ?_, ?_, ?_, rfl, c2, by omega, c3, rfl⟩
  · rw [or_comm64 y, bits_join .u64 64 (by decide) wraps_u64 (64 - s).toNat _ _ c4 (Int.mul_emod_left _ _) (by omega) y0 y1 (by omega), Int.add_comm]
  · omega
  · omega

theorem shr_step {D a : Nat → Int} {j : Nat} {P Q x y r : Int} (hv : vf D (j + 1) * P + r = vf a (j + 1)) (hx : a (j + 1) = x) (hy : D j = y) (hPQ : Q * P = 18446744073709551616) :
    vf (upd (upd D (j + 1) (x / P)) j (y + x % P * Q)) (j + 1 + 1) * P + r = vf a (j + 1 + 1) := by
  have e1 : vf (upd (upd D (j + 1) (x / P)) j (y + x % P * Q)) j = vf D j := vf_congr (fun i hi => by rw [upd_other _ _ _ _ (by omega), upd_other _ _ _ _ (by omega)])
  have e2 : upd (upd D (j + 1) (x / P)) j (y + x % P * Q) (j + 1) = x / P := by rw [upd_other _ _ _ _ (by omega), upd_same]
  rw [vf_succ, vf_succ, e1, e2, upd_same, vf_succ a (j + 1), hx, ← hv, vf_succ D j, hy, pw_succ, ← hPQ]
  have e4 := Int.mul_ediv_add_emod x P
  have e5 : x * (Q * P * pw j) = (P * (x / P) + x % P) * (Q * P * pw j) := by rw [e4]
  rw [e5]
  grind
theorem shr_step0 {D a : Nat → Int} {P x : Int} (hx : a 0 = x) : vf (upd D 0 (x / P)) 1 * P + x % P = vf a 1 := by
  have e4 := Int.mul_ediv_add_emod x P
  simp only [vf, pw, upd_same, hx, Int.zero_add, Int.mul_one]
  have : x / P * P = P * (x / P) := Int.mul_comm _ _
  omega

set_option maxRecDepth 100000 in
set_option maxHeartbeats 1000000 in
theorem shrBits_c (ao : Option Addr) (n cap : Nat) (s : Int) (f : Nat → Int) (w : World) (hn : n ≤ 17592186044416) (s0 : 0 ≤ s) (s1 : s ≤ 63) (hr : Rd .u64 w ao n f) (hf : Lm f n) :
    Calls Tryz.prog 155 #[.slice ao n cap, .int .i64 s] w fun e w' => ∃ ao' m cap' f' r, e = .returned (.slice ao' m cap') ∧ Res n w w' ao' m cap' f' ∧ 0 ≤ r ∧ r < 2 ^ s.toNat ∧ vf f' m * 2 ^ s.toNat + r = vf f n := by
  have HF := hid hf
  have HRd := hid hr
  clear hf hr
  have P0 : Hid ((0 : Int) < 2 ^ s.toNat) := Int.pow_pos (by decide)
  have Q0 : Hid ((0 : Int) < 2 ^ (64 - s).toNat) := Int.pow_pos (by decide)
  go_enter Tryz.func155, Tryz.ntmps155
  go_wp2_with (at_make; refine wpList_make_blk .u64 w rfl (.tmp 8) (.tmp 8) 22 rfl 28 8 Tryz.underlying22 Tryz.infoU64 .i64 .i64 _ _ n rfl rfl rfl rfl (by omega) (by unfold maxLen; omega) ?_; intro w1 hb1 hbel1)
  go_loopw [12] (fun t wr => ∃ (k : Nat) (D : Nat → Int) (r : Int), k ≤ n ∧ t = .int .i64 k ∧ Below w.heap.size w wr ∧ Blk .u64 28 wr w.heap.size n D ∧ Hid (Lm D n) ∧ Hid (0 ≤ r ∧ r < 2 ^ s.toNat) ∧ Hid (∀ j, j + 1 = k → D j < 2 ^ (64 - s).toNat) ∧ Hid (vf D k * 2 ^ s.toNat + r = vf f k)) (fun t _ => n - (intOf t).toNat)
  case atStart => exact ⟨0, fun _ => 0, 0, by omega, rfl, hbel1, hb1, fun j hj => ⟨Int.le_refl 0, show (0 : Int) < 18446744073709551616 by decide⟩, ⟨Int.le_refl 0, P0.out⟩, fun j hj => by omega, by simp [Hid, vf]⟩
  case round =>
    clear hb1 hbel1
    obtain ⟨k, D, r, hkn, rfl, hbel, hbl, HL, HR, HT, HV⟩ := hrel
    by_cases hlt : k < n
    · have hr := HRd.out
      obtain ⟨b, ob, rfl⟩ := hr.at (by omega)
      have hbw : b < w.heap.size := World.block_lt_of_cell? w _ (hr.cell hlt)
      have hrr := hid (hr.below hbel (Nat.le_refl _))
      clear hr
      cases k with
      | zero =>
        obtain ⟨x, hx⟩ : ∃ x, f 0 = x := ⟨_, rfl⟩
        have hcelb : wr.cell? ⟨b, ob, none⟩ = some (.int .u64 x) := by rw [← hx]; exact hrr.out.cell hlt
        have hcell := hbl.cell (j := 0) hlt
        have hfz := hbl.frozen 0
        obtain ⟨x0, x1⟩ := HF.out 0 hlt
        rw [hx] at x0 x1
        obtain ⟨L, Z, H, eL, L0, L1, eZ, Z0, Z1, eH, H0, H1, HH, HZ2⟩ := shr_nums x 0 s x0 x1 s0 s1 (Int.le_refl _) Q0.out
        have HX := hid hx
        clear hx
        go_wp2
        go_roundw
        case rel =>
          refine ⟨1, _, x % 2 ^ s.toNat, by omega, by go_num, below_only hbel ((Only.refl _ _).setCell _ _ _) (Nat.le_refl _) hbel.size, hbl.set 0 H, HL.out.upd ⟨H0, H1⟩, ⟨Int.emod_nonneg _ (by have := P0.out; omega), Int.emod_lt_of_pos _ P0.out⟩, fun j hj => ?_, ?_⟩
          · obtain rfl : j = 0 := by omega
            rw [upd_same]; exact HH.out
          · rw [← eH]; exact shr_step0 HX.out
        case measure => simp [intOf]; omega
      | succ j =>
        obtain ⟨x, hx⟩ : ∃ x, f (j + 1) = x := ⟨_, rfl⟩
        obtain ⟨y, hy⟩ : ∃ y, D j = y := ⟨_, rfl⟩
        have hcelb : wr.cell? ⟨b, ob + (j + 1), none⟩ = some (.int .u64 x) := by rw [← hx]; exact hrr.out.cell hlt
        have hcell := hbl.cell (j := j + 1) hlt
        have hcely : wr.cell? ⟨w.heap.size, j, none⟩ = some (.int .u64 y) := by rw [← hy]; exact hbl.cell (by omega)
        have hfz := hbl.frozen (j + 1)
        have hfz2 := hbl.frozen j
        obtain ⟨x0, x1⟩ := HF.out (j + 1) hlt
        obtain ⟨y0, y1⟩ := HL.out j (by omega)
        rw [hx] at x0 x1
        rw [hy] at y0 y1
        obtain ⟨L, Z, H, eL, L0, L1, eZ, Z0, Z1, eH, H0, H1, HH, HZ2⟩ := shr_nums x y s x0 x1 s0 s1 y0 (by rw [← hy]; exact HT.out j rfl)
        have HX := hid hx
        have HY := hid hy
        clear hx hy
        have hcelb2 : ∀ (v : Value), (wr.setCell ⟨w.heap.size, j + 1, none⟩ v).cell? ⟨b, ob + (j + 1), none⟩ = some (.int .u64 x) := fun v => by
          rw [World.cell?_of_block (Below.heap_setCell _ _ _ _ (by simp; omega))]; exact hcelb
        go_wp2
        go_region
        all_goals
          go_wp2
          go_roundw
          case rel =>
            refine ⟨j + 1 + 1, _, r, by omega, by go_num, ?_, ((hbl.set (j + 1) H).set j Z), ?_, HR.out, fun i hi => ?_, ?_⟩
            · exact below_only hbel ((((Only.refl _ _).setCell _ _ _).setCell _ _ _).drew) (Nat.le_refl _) hbel.size
            · exact (HL.out.upd ⟨H0, H1⟩).upd ⟨Z0, Z1⟩
            · obtain rfl : i = j + 1 := by omega
              rw [upd_other _ _ _ _ (by omega), upd_same]; exact HH.out
            · have := shr_step (Q := 2 ^ (64 - s).toNat) HV.out HX.out HY.out (by rw [← Int.pow_add, show (64 - s).toNat + s.toNat = 64 by omega]; rfl)
              rw [← HZ2.out, eH] at this
              exact this
          case measure => simp [intOf]; omega
    · have hkn2 : k = n := by omega
      subst hkn2
      go_wp2_with fail
      refine (trim_res w.heap.size k k D w wr hbel (Nat.le_refl _) hbl (Nat.le_refl _) (by omega) HL.out).mono ?_
      rintro e w3 ⟨rfl, ao2, m, cap2, rfl, hres, hmn, hv⟩
      have HV3 := hid hv
      clear hv
      go_wp2
      go_ret
      exact ⟨ao2, m, cap2, D, r, rfl, hres, HR.out.1, HR.out.2, by rw [HV3.out, HV.out]⟩
end Go.Proofs.YtclopblgdiahiaaGreatDoor
namespace Go.Proofs.YtclopblgdiahiaaGreatDoor
open Go.RowKit

theorem top_zero {f : Nat → Int} {m : Nat} (h : Lm f (m + 1)) (hv : vf f (m + 1) < pw m) : f m = 0 ∧ vf f m = vf f (m + 1) := by
  have h0 := vf_nonneg (h.mono (m := m) (by omega))
  have h1 := h m (by omega)
  rw [vf_succ] at hv ⊢
  have hz : f m = 0 := by
    apply Int.le_antisymm _ h1.1
    apply Int.le_of_lt_add_one
    apply Int.lt_of_not_ge
    intro hge
    have : 1 * pw m ≤ f m * pw m := Int.mul_le_mul_of_nonneg_right (by omega) (Int.le_of_lt (pw_pos m))
    omega
  rw [hz]; simp
theorem top_ge {f : Nat → Int} {k : Nat} {c : Int} (h : Lm f (k + 1)) (hv : c * pw k ≤ vf f (k + 1)) : c ≤ f k := by
  apply Int.le_of_lt_add_one
  have h1 := vf_lt (h.mono (m := k) (by omega))
  rw [vf_succ] at hv
  have : c * pw k < (f k + 1) * pw k := by rw [Int.add_mul, Int.one_mul]; omega
  exact Int.lt_of_mul_lt_mul_right this (Int.le_of_lt (pw_pos k))
theorem win_val {U U' : Nat → Int} {p l N : Nat} {X : Int} (hN : p + l ≤ N) (he : ∀ j, j < p ∨ p + l ≤ j → U' j = U j) (hv : vf (sh U' p) l = vf (sh U p) l - X) : vf U' N = vf U N - X * pw p := by
  obtain ⟨r, rfl⟩ := Nat.exists_eq_add_of_le hN
  rw [Nat.add_assoc, vf_split U' p, vf_split U p, vf_split (sh U' p) l, vf_split (sh U p) l, sh_sh, sh_sh, vf_congr (f := U') (g := U) (n := p) (fun j hj => he j (by omega)), vf_congr (f := sh U' (p + l)) (g := sh U (p + l)) (n := r) (fun j hj => he _ (by omega)), hv]
  grind
theorem vf_upd {Q : Nat → Int} {p N : Nat} {t : Int} (hp : p < N) (h0 : Q p = 0) : vf (upd Q p t) N = vf Q N + t * pw p := by
  have := win_val (U := Q) (U' := upd Q p t) (p := p) (l := 1) (N := N) (X := -t) (by omega) (fun j hj => upd_other _ _ _ _ (by omega)) (by simp [vf, pw, sh, upd, h0])
  rw [this]; grind

theorem norm_V {h : Nat → Int} {k : Nat} {y P : Int} (hl : Lm h (k + 1)) (hy : h k = y) (p0 : 0 < P) (h1 : 9223372036854775808 ≤ y * P) (h2 : (y + 1) * P ≤ 18446744073709551616) : 9223372036854775808 * pw k ≤ vf h (k + 1) * P ∧ vf h (k + 1) * P < pw (k + 1) := by
  have lo := vf_nonneg (hl.mono (m := k) (by omega))
  have hi := vf_lt (hl.mono (m := k) (by omega))
  have pk := pw_pos k
  rw [vf_succ, hy, pw_succ, Int.add_mul]
  have e0 : 0 ≤ vf h k * P := Int.mul_nonneg lo (Int.le_of_lt p0)
  have e1 : 9223372036854775808 * pw k ≤ y * P * pw k := Int.mul_le_mul_of_nonneg_right h1 (Int.le_of_lt pk)
  have e2 : (y + 1) * P * pw k ≤ 18446744073709551616 * pw k := Int.mul_le_mul_of_nonneg_right h2 (Int.le_of_lt pk)
  have e3 : y * pw k * P = y * P * pw k := by grind
  have e4 : (y + 1) * P * pw k = y * P * pw k + pw k * P := by grind
  have e5 : vf h k * P < pw k * P := (Int.mul_lt_mul_right p0).2 hi
  rw [e3]
  omega
theorem norm_len {fv : Nat → Int} {kv k : Nat} {V : Int} (hl : Lm fv kv) (hf : Fm fv kv) (hv : vf fv kv = V) (h1 : 9223372036854775808 * pw k ≤ V) (h2 : V < pw (k + 1)) : kv = k + 1 := by
  have pk := pw_pos k
  have a : k + 1 ≤ kv := by
    apply Nat.le_of_not_lt; intro hlt
    have b1 := vf_lt hl
    have b2 := pw_mono (show kv ≤ k by omega)
    omega
  have b : kv ≤ k + 1 := by
    apply Nat.le_of_not_lt; intro hlt
    have b1 := vf_form_ge hl hf (by omega)
    have b2 := pw_mono (show k + 1 ≤ kv - 1 by omega)
    omega
  omega
/-- The highest limbs are less than the divisor. -/
theorem first_top {U : Nat → Int} {lq k : Nat} {A P V : Int} (hU : Lm U (lq + (k + 1))) (hv : vf U (lq + (k + 1)) = A * P) (hA : A < pw (lq + k)) (p0 : 0 < P) (p1 : P ≤ 9223372036854775808) (hV : 9223372036854775808 * pw k ≤ V) : vf (sh U lq) (k + 1) < V := by
  have lo := vf_nonneg (hU.mono (m := lq) (by omega))
  rw [vf_split] at hv
  have e1 : A * P < pw (lq + k) * P := (Int.mul_lt_mul_right p0).2 hA
  have e2 : P * pw k ≤ 9223372036854775808 * pw k := Int.mul_le_mul_of_nonneg_right p1 (Int.le_of_lt (pw_pos k))
  have e3 : P * pw k * pw lq ≤ V * pw lq := Int.mul_le_mul_of_nonneg_right (by omega) (Int.le_of_lt (pw_pos lq))
  have e4 : pw (lq + k) * P = P * pw k * pw lq := by rw [pw_add]; grind
  have : vf (sh U lq) (k + 1) * pw lq < V * pw lq := by omega
  exact Int.lt_of_mul_lt_mul_right this (Int.le_of_lt (pw_pos lq))
theorem win_lt {U : Nat → Int} {p m : Nat} {V : Int} (hU : Lm U (p + 1)) (h : vf (sh U (p + 1)) m < V) : vf (sh U p) (m + 1) < V * 18446744073709551616 := by
  have := hU p (by omega)
  rw [vf_cons]; omega

/-- Leading noughts of a limb. -/
theorem lead_nums (y : Nat) (y0 : 0 < y) (y1 : y < 18446744073709551616) : ∃ s : Int, 0 ≤ s ∧ s ≤ 63 ∧ (64 - (Lib.bitLen y : Int)) = s ∧ 9223372036854775808 ≤ (y : Int) * 2 ^ s.toNat ∧ ((y : Int) + 1) * 2 ^ s.toNat ≤ 18446744073709551616 := by
  obtain ⟨b, hb⟩ : ∃ b, Lib.bitLen y = b := ⟨_, rfl⟩
  obtain ⟨b1, b2, b3⟩ := bitLen_bounds b y hb y0 y1
  have b64 : b ≤ 64 := by rw [← hb]; exact Lib.bitLen_le y 64 (by omega) (by omega)
  rw [hb]
  have es : (64 - (b : Int)).toNat = 64 - b := by omega
  refine ⟨64 - (b : Int), by omega, by omega, rfl, ?_, ?_⟩
  · rw [es]
    have e1 : (2 : Int) ^ (b - 1) * 2 ^ (64 - b) = 9223372036854775808 := by rw [← Int.pow_add, show b - 1 + (64 - b) = 63 by omega]; rfl
    have e2 : (2 : Int) ^ (b - 1) ≤ y := by exact_mod_cast b2
    have := Int.mul_le_mul_of_nonneg_right e2 (Int.le_of_lt (show (0 : Int) < 2 ^ (64 - b) from Int.pow_pos (by decide)))
    omega
  · rw [es]
    have e1 : (2 : Int) ^ b * 2 ^ (64 - b) = 18446744073709551616 := by rw [← Int.pow_add, show b + (64 - b) = 64 by omega]; rfl
    have e2 : (y : Int) + 1 ≤ 2 ^ b := by exact_mod_cast b3
    have := Int.mul_le_mul_of_nonneg_right e2 (Int.le_of_lt (show (0 : Int) < 2 ^ (64 - b) from Int.pow_pos (by decide)))
    omega
end Go.Proofs.YtclopblgdiahiaaGreatDoor
namespace Go.Proofs.YtclopblgdiahiaaGreatDoor
open Go.RowKit

/-- Quotient and rest out of what is left of the shifted numbers. -/
theorem rest_of {A B P V U q R r : Int} (p0 : 0 < P) (hV : V = B * P) (h : U + V * q = A * P) (hU : U < V) (hR : R * P + r = U) (r0 : 0 ≤ r) (r1 : r < P) : A = q * B + R ∧ R < B := by
  have e1 : (A - q * B) * P = U := by rw [Int.sub_mul]; rw [hV] at h; have : q * B * P = B * P * q := by grind
                                      omega
  have e2 : U / P = A - q * B := by rw [← e1]; exact Int.mul_ediv_cancel _ (by omega)
  have e3 : U / P = R := by rw [← hR, Int.add_comm, Int.add_mul_ediv_right _ _ (by omega), Int.ediv_eq_zero_of_lt r0 r1]; omega
  refine ⟨by omega, ?_⟩
  have : R * P < B * P := by rw [← hV]; omega
  exact Int.lt_of_mul_lt_mul_right this (Int.le_of_lt p0)

set_option maxRecDepth 100000 in
set_option maxHeartbeats 8000000 in
theorem divLong_cA (ao bo : Option Addr) (n m ca cb : Nat) (f h : Nat → Int) (w : World) (hn : n ≤ 8796093022208) (hm : m ≤ 8796093022208) (hr : Rd .u64 w ao n f) (hs : Rd .u64 w bo m h) (hf : Lm f n) (hh : Lm h m) (fh : Fm h m) (h2 : 2 ≤ m) (hle : vf h m ≤ vf f n) :
    Calls Tryz.prog 134 #[.slice ao n ca, .slice bo m cb] w fun e w' => ∃ a1 k1 c1 q a2 k2 c2 r, e = .returned (.tuple #[.slice a1 k1 c1, .slice a2 k2 c2]) ∧ Res n w w' a1 k1 c1 q ∧ Res (n + 1) w w' a2 k2 c2 r ∧ vf f n = vf q k1 * vf h m + vf r k2 ∧ 0 ≤ vf r k2 ∧ vf r k2 < vf h m ∧ Apart a1 a2 := by
  have hmn : m ≤ n := vf_len hh hf fh hle
  obtain ⟨k, rfl⟩ : ∃ k, m = k + 1 := ⟨m - 1, by omega⟩
  obtain ⟨lq, rfl⟩ : ∃ lq, n = lq + k := ⟨n - k, by omega⟩
  obtain ⟨b, ob, rfl⟩ := hs.at (by omega)
  obtain ⟨y, hy⟩ : ∃ y, h k = y := ⟨_, rfl⟩
  have hcell : w.cell? ⟨b, ob + k, none⟩ = some (.int .u64 y) := by rw [← hy]; exact hs.cell (by omega)
  have hy01 := hh k (by omega)
  have hyne : y ≠ 0 := by rw [← hy]; rcases fh with h | h; omega; simpa using h
  rw [hy] at hy01
  obtain ⟨y, rfl⟩ := Int.eq_ofNat_of_zero_le hy01.1
  obtain ⟨s, s0, s1, hse, hP1, hP2⟩ := lead_nums y (by omega) (by omega)
  have cl := Tryz.bits_LeadingZeros64 (y : Int) w (by omega) (by omega)
  rw [Int.toNat_natCast, hse] at cl
  obtain ⟨P, hP⟩ : ∃ P : Int, 2 ^ s.toNat = P := ⟨_, rfl⟩
  have p0 : 0 < P := by rw [← hP]; exact Int.pow_pos (by decide)
  have p1 : P ≤ 9223372036854775808 := by
    rw [← hP]
    have e1 : (2 : Int) ^ s.toNat * 2 ^ (63 - s).toNat = 9223372036854775808 := by rw [← Int.pow_add, show s.toNat + (63 - s).toNat = 63 by omega]; rfl
    have e2 : (0 : Int) < 2 ^ (63 - s).toNat := Int.pow_pos (by decide)
    have := Int.mul_le_mul_of_nonneg_left (show (1 : Int) ≤ 2 ^ (63 - s).toNat by omega) (Int.le_of_lt (show (0 : Int) < 2 ^ s.toNat from Int.pow_pos (by decide)))
    omega
  have hP1' : 9223372036854775808 ≤ (y : Int) * P := by rw [← hP]; exact hP1
  have hP2' : ((y : Int) + 1) * P ≤ 18446744073709551616 := by rw [← hP]; exact hP2
  obtain ⟨hV1, hV2⟩ := norm_V hh hy p0 hP1' hP2'
  have hA := vf_lt hf
  have CL := hid cl; have HF := hid hf; have HH := hid hh; have HR := hid hr; have HS := hid hs; have HP := hid hP; have PP0 := hid p0; have PP1 := hid p1; have HV1 := hid hV1; have HV2 := hid hV2; have HA := hid hA
  clear cl hf hh hr hs hP p0 p1 hV1 hV2 hA hP1 hP2 hP1' hP2' hse fh hle hy
  go_enter Tryz.func134, Tryz.ntmps134
  go_wp2_with fail
  refine CL.out.mono ?_
  rintro e w' ⟨rfl, rfl⟩
  go_wp2_with fail
  refine (shl_c (some ⟨b, ob, none⟩) (k + 1) cb 0 s s h _ (by omega) (by omega) s0 s1 (by omega) HS.out HH.out).mono ?_
  rintro e w1 ⟨av, kv, cv, fv, rfl, hresv, hvv⟩
  rw [HP.out] at hvv
  have hvv2 : vf fv kv = vf h (k + 1) * P := by rw [hvv]; simp [pw]
  have hkv := norm_len hresv.lm hresv.fm hvv2 HV1.out HV2.out
  subst hkv
  have htop := top_ge hresv.lm (by rw [hvv2]; exact HV1.out)
  obtain ⟨gv, hav, hgv0, hgv, hblv⟩ : ∃ gv, av = some ⟨gv, 0, none⟩ ∧ w'.heap.size ≤ gv ∧ gv < w1.heap.size ∧ Rd .u64 w1 (some ⟨gv, 0, none⟩) (k + 1) fv := by
    rcases hresv.own with ⟨_, h, _⟩ | ⟨g, e, hg, _, hn, _, hb⟩
    · omega
    · exact ⟨g, e, hg, hb.lt, hb.rd0 hn⟩
  subst hav
  have HVV := hid hvv2; have HTop := hid htop; have HRv := hid hblv; have LV := hid hresv.lm; have BV := hid hresv.bel
  have HR1 := hid (HR.out.below BV.out (Nat.le_refl _))
  clear hvv hvv2 htop hblv hresv CL hcell HS HR
  go_wp2_with fail
  refine (shl_c ao (lq + k) ca 0 s s f w1 (by omega) (by omega) s0 s1 (by omega) HR1.out HF.out).mono ?_
  rintro e w2 ⟨au, ku, cu, fu, rfl, hresu, hvu⟩
  rw [HP.out] at hvu
  have hvu2 : vf fu ku = vf f (lq + k) * P := by rw [hvu]; simp [pw]
  have hkul : ku ≤ lq + k + 1 := by have := hresu.le; omega
  have HVU := hid hvu2; have HRu := hid hresu.rd; have LU := hid hresu.lm; have BU := hid hresu.bel
  have HRv2 := hid (HRv.out.below BU.out (Nat.le_refl _))
  clear hvu hvu2 hresu HR1 HRv
  go_wp2_with fail
  refine (padded_c au ku cu (lq + k + 1) _ fu w2 (by omega) hkul (by omega) HRu.out).mono ?_
  rintro e w3 ⟨rfl, hbel3, hb3⟩
  have HRv3 := hid (HRv2.out.below hbel3 (Nat.le_refl _))
  have BP := hid hbel3; have HB3 := hid hb3
  clear HRv2 HRu hbel3 hb3
  go_wp2_with (at_make; refine wpList_make_blk .u64 w3 rfl (.tmp 35) (.tmp 35) 22 rfl 28 8 Tryz.underlying22 Tryz.infoU64 .i64 .i64 _ _ lq rfl rfl (by omega) (by omega) (by omega) (by unfold maxLen; omega) ?_; intro w4 hb4 hbel4)
  have G3 : w2.heap.size < w3.heap.size := HB3.out.lt
  have G4 : w3.heap.size < w4.heap.size := hb4.lt
  have z1 := BV.out.size; have z2 := BU.out.size
  have HB4 := hid (HB3.out.below hbel4 G3)
  have HRv4 := hid (HRv3.out.below hbel4 (Nat.le_refl _))
  have BALL := hid (BV.out.trans ((BU.out.mono z1).trans ((BP.out.mono (by omega)).trans (hbel4.mono (by omega)))))
  obtain ⟨V, hV⟩ : ∃ V, vf h (k + 1) * P = V := ⟨_, rfl⟩
  have hval0 : vf (ext fu ku) (lq + (k + 1)) = vf f (lq + k) * P := by rw [vf_ext_list _ _ _ (by omega), HVU.out]
  have hL0 : Lm (ext fu ku) (lq + (k + 1)) := fun j hj => by
    by_cases hjn : j < ku
    · rw [ext_in _ _ _ hjn]; exact LU.out j hjn
    · rw [ext_out _ _ _ (by omega)]; omega
  have htop0 := first_top hL0 hval0 HA.out PP0.out PP1.out (V := V) (by rw [← hV]; exact HV1.out)
  have VAL0 := hid hval0; have L0 := hid hL0; have TOP0 := hid htop0; have VV := hid hV; have HB4q := hid hb4
  have hVlt : V < pw (k + 1) := by rw [← hV]; exact HV2.out
  have hvfv : vf fv (k + 1) = V := by rw [HVV.out, hV]
  have VLT := hid hVlt; have VFV := hid hvfv
  clear hval0 hL0 htop0 hV hb4 hVlt hvfv HB3 HRv3 BV BU BP HVV HV1 HV2 HVU LU hbel4
  generalize hG : w2.heap.size = G at G3 G4 z2 HB4 ⊢
  generalize hH : w3.heap.size = H at G3 G4 HB4q ⊢
  clear hG hH
  go_loopw [39] (fun t wr => ∃ (i : Nat) (U Q : Nat → Int), i ≤ lq ∧ t = .int .i64 i ∧ Below w'.heap.size w' wr ∧ Hid (w4.heap.size ≤ wr.heap.size) ∧ Hid (Blk .u64 28 wr G (lq + k + 1) U) ∧ Hid (Lm U (lq + k + 1)) ∧ Hid (Blk .u64 28 wr H lq Q) ∧ Hid (Lm Q lq) ∧ Hid (Rd .u64 wr (some ⟨gv, 0, none⟩) (k + 1) fv) ∧ Hid (∀ j, j < lq - i → Q j = 0) ∧ Hid (∀ j, lq - i + (k + 1) ≤ j → j < lq + k + 1 → U j = 0) ∧ Hid (vf (sh U (lq - i)) (k + 1) < V) ∧ Hid (vf U (lq + k + 1) + V * vf Q lq = vf f (lq + k) * P)) (fun t _ => lq - (intOf t).toNat)
  case atStart => exact ⟨0, ext fu ku, fun _ => 0, by omega, rfl, BALL.out, Nat.le_refl _, HB4.out, L0.out, HB4q.out, lm_zero _, HRv4.out, fun _ _ => rfl, fun j h1 h2 => by omega, TOP0.out, (by show _ = _; rw [vf_zero (f := fun _ => 0) (fun _ _ => rfl), VAL0.out.symm]; simp; rfl)⟩
  case round =>
    clear BALL HB4 L0 HB4q HRv4 TOP0 VAL0
    obtain ⟨i, U, Q, hi, rfl, hbel, HSz, HBU, HLU, HBQ, HLQ, HRv, HQz, HUz, HTp, HVal⟩ := hrel
    by_cases hlt : i < lq
    · obtain ⟨p, hp⟩ : ∃ p, lq - i = p + 1 := ⟨lq - i - 1, by omega⟩
      have hpi : (lq : Int) - 1 - (i : Int) = (p : Int) := by omega
      have hp2 : p < lq := by omega
      have hp3 : ¬ (p = lq + k + 1) := by omega
      have HPe := hid hp
      clear hp
      have hw := win_lt (p := p) (HLU.out.mono (by omega)) (by rw [← HPe.out]; exact HTp.out)
      have HW := hid hw
      clear hw
      have hbl := HBU.out
      have z3 := HSz.out
      go_wp2_with fail
      rw [show p + (k + 1) + 1 - p = k + 1 + 1 by omega]
      refine (takeOut_c G p (k + 1) (lq + k + 1 - p) (lq + k + 1) U gv 0 cv fv wr HBU.out HLU.out (by omega) (by omega) (by omega) (by omega) HRv.out LV.out (by omega) h2 HTop.out (by rw [VFV.out]; exact HW.out)).mono ?_
      rintro e w5 ⟨t, rfl, ht0, ht1, hon, U', hbu', hlu', heu', hvu', hlt'⟩
      rw [VFV.out] at hvu' hlt'
      have hbq' := HBQ.out.only hon (by omega)
      have hcelq := hbq'.cell (j := p) hp2
      have hfzq := hbq'.frozen p
      obtain ⟨hz, hzv⟩ := top_zero (hlu'.sh (o := p) (m := k + 1 + 1) (by omega)) (Int.lt_trans hlt' VLT.out)
      have hbel5 : Below w'.heap.size w' w5 := below_only hbel hon (by omega) hbel.size
      have HB5 := hid hbu'; have HQ5 := hid hbq'; have HL5 := hid hlu'; have HE5 := hid heu'; have HV5 := hid hvu'; have HLT5 := hid hlt'; have HZ5 := hid hz; have HZV5 := hid hzv; have HON := hid hon
      have HR5 := hid (HRv.out.only hon (off_some (by omega)))
      clear hbu' hbq' hlu' heu' hvu' hlt' hz hzv hon hbl
      go_wp2
      go_roundw
      case rel =>
        refine ⟨i + 1, U', upd Q p t, by omega, by go_num, below_only hbel5 ((Only.refl _ _).setCell _ _ _) (by omega) hbel5.size, ?_, HB5.out.setOther (by simp; omega) _, HL5.out, HQ5.out.set p t, HLQ.out.upd ⟨ht0, ht1⟩, HR5.out.only ((Only.refl _ _).setCell _ _ _) (off_some (by omega)), ?_, ?_, ?_, ?_⟩
        · have := HON.out.size
          show _ ≤ _
          simp [World.setCell]; omega
        · intro j hj
          have := HPe.out
          rw [upd_other _ _ _ _ (by omega)]
          exact HQz.out j (by omega)
        · intro j h1 h2
          have hpe := HPe.out
          by_cases hj : j = p + (k + 1)
          · subst hj; exact HZ5.out
          · rw [HE5.out j (by omega)]
            exact HUz.out j (by omega) h2
        · have hpe := HPe.out
          show _ < _
          rw [show lq - (i + 1) = p by omega, HZV5.out]; exact HLT5.out
        · have e1 := win_val (N := lq + k + 1) (by omega) HE5.out HV5.out
          have e2 := vf_upd (Q := Q) (N := lq) (t := t) hp2 (HQz.out p (by have := HPe.out; omega))
          have e3 := HVal.out
          show _ = _
          rw [e1, e2, Int.mul_add, ← e3]
          grind
      case measure => simp [intOf]; omega
    · have hil : i = lq := by omega
      subst hil
      have z3 := HSz.out
      have hUz : vf U (i + k + 1) = vf U (k + 1) := vf_ext (by omega) (fun j h1 h2 => HUz.out j (by omega) h2)
      have hTp := HTp.out
      rw [Nat.sub_self, sh_zero] at hTp
      have hVal := HVal.out
      rw [hUz] at hVal
      have TPE := hid hTp; have VALE := hid hVal
      clear hUz hTp hVal
      have i1 : ((k + 1 : Nat) : Int) ≤ ((i + k + 1 : Nat) : Int) := by omega
      go_wp2_with fail
      go_region_with (first | (go_at_call_of 137 H; refine (trim_res H i i Q w' _ (by repeat (first | exact hbel | refine below_drewN ?_ _ | refine Below.drew ?_)) (by omega) (by exact HBQ.out) (Nat.le_refl _) (by omega) HLQ.out).mono ?_; rintro e w6 ⟨rfl, a1, k1, c1, rfl, hres1, hk1, hv1⟩; have HRes1 := hid hres1; have HVq := hid hv1; clear hres1 hv1) | (go_at_call_of 137 G; refine (trim_res G (i + k + 1) (k + 1) U w' _ (by repeat (first | exact hbel | refine below_drewN ?_ _ | refine Below.drew ?_)) (by omega) (by exact HBU.out) (by omega) (by omega) HLU.out).mono ?_; rintro e w6 ⟨rfl, a2, k2, c2, rfl, hres2, hk2, hv2⟩; have HRes2 := hid hres2; have HVr := hid hv2; clear hres2 hv2) | (go_at_call 155; refine (shrBits_c a2 k2 c2 s U _ (by omega) s0 s1 (by exact HRes2.out.rd) HRes2.out.lm).mono ?_; rintro e w7 ⟨a3, k3, c3, R, r, rfl, hres3, r0, r1, hv3⟩; have HRes3 := hid hres3; have HV3 := hid hv3; clear hres3 hv3))
      all_goals
        go_wp2
        go_ret2
        have B := HRes3.out.bel
        have e3 := HV3.out
        rw [HP.out, HVr.out] at e3
        rw [HP.out] at r1
        obtain ⟨g1, g2⟩ := rest_of PP0.out VV.out.symm VALE.out TPE.out e3 r0 r1
        refine ⟨a1, k1, c1, Q, a3, k3, c3, R, rfl, (HRes1.out.later ⟨B.os, B.tape, B.output, B.size, B.block⟩).mono (by omega), (HRes3.out.ahead (by repeat (first | exact hbel | refine below_drewN ?_ _ | refine Below.drew ?_))).mono (by omega), ?_, vf_nonneg HRes3.out.lm, g2, HRes3.out.apart HRes1.out.und (Nat.le_refl _)⟩
        rw [HVq.out]; exact g1

/-- divMod: for all numbers. -/
theorem divMod_longA (ao bo : Option Addr) (n m ca cb : Nat) (f h : Nat → Int) (w : World) (hn : n ≤ 8796093022208) (hm : m ≤ 8796093022208) (hr : Rd .u64 w ao n f) (hs : Rd .u64 w bo m h) (hf : Lm f n) (hh : Lm h m) (ff : Fm f n) (fh : Fm h m) (h2 : 2 ≤ m) (hle : vf h m ≤ vf f n) :
    Calls Tryz.prog 112 #[.slice ao n ca, .slice bo m cb] w fun e w' => ∃ a1 k1 c1 q a2 k2 c2 r, e = .returned (.tuple #[.slice a1 k1 c1, .slice a2 k2 c2]) ∧ Res n w w' a1 k1 c1 q ∧ Res (n + 1) w w' a2 k2 c2 r ∧ vf f n = vf q k1 * vf h m + vf r k2 ∧ 0 ≤ vf r k2 ∧ vf r k2 < vf h m ∧ Apart a1 a2 := by
  have cc := cmp_c ao bo n m ca cb f h w (by omega) (by omega) hr hs hf hh ff fh
  have CC := hid cc
  have CL := hid (fun q => divLong_cA ao bo n m ca cb f h (w.drewN q) hn hm hr hs hf hh fh h2 hle)
  have HLe := hid hle
  have h1 : ((m : Int) == 1) = false := by simp; omega
  clear cc hr hs hf hh ff fh hle
  go_enter Tryz.func112, Tryz.ntmps112
  go_wp2_with fail
  refine CC.out.mono ?_
  rintro e w1 ⟨⟨q, rfl⟩, c, rfl, ho⟩
  have hc : 0 ≤ c := by have := HLe.out; unfold Ord at ho; omega
  clear ho
  go_wp2_with fail
  refine (CL.out q).mono ?_
  rintro e w2 ⟨a1, k1, c1, q1, a2, k2, c2, r, rfl, hres1, hres2, hv, hr0, hr1, hap⟩
  have HV := hid hv; have HR0 := hid hr0; have HR1 := hid hr1; have HAP := hid hap
  clear hv hr0 hr1 hap
  go_wp2
  go_ret2
  have hb := below_drewN (Below.refl w.heap.size w) q
  exact ⟨a1, k1, c1, q1, a2, k2, c2, r, rfl, hres1.ahead hb, hres2.ahead hb, HV.out, HR0.out, HR1.out, HAP.out⟩

theorem divMod_cA (ao bo : Option Addr) (n m ca cb : Nat) (f h : Nat → Int) (w : World) (hn : n ≤ 8796093022208) (hm : m ≤ 8796093022208) (hr : Rd .u64 w ao n f) (hs : Rd .u64 w bo m h) (hf : Lm f n) (hh : Lm h m) (ff : Fm f n) (fh : Fm h m) (hm0 : 0 < m) :
    Calls Tryz.prog 112 #[.slice ao n ca, .slice bo m cb] w fun e w' => ∃ a1 k1 c1 q a2 k2 c2 r, e = .returned (.tuple #[.slice a1 k1 c1, .slice a2 k2 c2]) ∧ Res n w w' a1 k1 c1 q ∧ Res (n + 1) w w' a2 k2 c2 r ∧ vf f n = vf q k1 * vf h m + vf r k2 ∧ 0 ≤ vf r k2 ∧ vf r k2 < vf h m ∧ Apart a1 a2 := by
  by_cases hsm : m = 1 ∨ vf f n < vf h m
  · exact divMod_smallA ao bo n m ca cb f h w hn hm hr hs hf hh ff fh hsm
  · exact divMod_longA ao bo n m ca cb f h w hn hm hr hs hf hh ff fh (by omega) (by omega)
theorem divMod_c (ao bo : Option Addr) (n m ca cb : Nat) (f h : Nat → Int) (w : World) (hn : n ≤ 8796093022208) (hm : m ≤ 8796093022208) (hr : Rd .u64 w ao n f) (hs : Rd .u64 w bo m h) (hf : Lm f n) (hh : Lm h m) (ff : Fm f n) (fh : Fm h m) (hm0 : 0 < m) :
    Calls Tryz.prog 112 #[.slice ao n ca, .slice bo m cb] w fun e w' => ∃ a1 k1 c1 q a2 k2 c2 r, e = .returned (.tuple #[.slice a1 k1 c1, .slice a2 k2 c2]) ∧ Res n w w' a1 k1 c1 q ∧ Res (n + 1) w w' a2 k2 c2 r ∧ vf f n = vf q k1 * vf h m + vf r k2 ∧ 0 ≤ vf r k2 ∧ vf r k2 < vf h m :=
  (divMod_cA ao bo n m ca cb f h w hn hm hr hs hf hh ff fh hm0).mono fun _ _ ⟨a1, k1, c1, q, a2, k2, c2, r, h1, h2, h3, h4, h5, h6, _⟩ => ⟨a1, k1, c1, q, a2, k2, c2, r, h1, h2, h3, h4, h5, h6⟩
end Go.Proofs.YtclopblgdiahiaaGreatDoor
namespace Go.Proofs.YtclopblgdiahiaaGreatDoor
open Go.RowKit

set_option maxHeartbeats 800000 in
theorem Mul_c (ao bo : Option Addr) (n m ca cb : Nat) (f h : Nat → Int) (w : World) (hn : n ≤ 1099511627776) (hm : m ≤ 1099511627776) (hca : n ≤ ca) (hcb : m ≤ cb) (hcam : ca ≤ 9223372036854775807) (hcbm : cb ≤ 9223372036854775807) (hr : Rd .u64 w ao n f) (hs : Rd .u64 w bo m h) (hf : Lm f n) (hh : Lm h m) :
    Calls Tryz.prog 86 #[.slice ao n ca, .slice bo m cb] w fun e w' => ∃ ao' k cap' f' er, e = .returned (.tuple #[.slice ao' k cap', .int .i64 er]) ∧ Res (n + m) w w' ao' k cap' f' ∧
      (Fm f n ∧ Fm h m ∧ er = 0 ∧ vf f' k = vf f n * vf h m ∨ ¬ (Fm f n ∧ Fm h m) ∧ er = 3 ∧ k = 0) := by
  have HF := (show Hid (Lm f n) from hf)
  have HH := (show Hid (Lm h m) from hh)
  clear hf hh
  cases hfa : fmB f n
  · have c1 := fun w' hr' => form_c ao n ca f w' (by omega) hr'
    rw [hfa] at c1
    have HN := hid (nfm_of hfa)
    have C1 := hid c1
    clear c1 hfa
    go_enter Tryz.func86, Tryz.ntmps86
    go_wp2_with (go_at_call 84; refine (C1.out _ hr).mono ?_; rintro e w' ⟨rfl, rfl⟩)
    go_ret2
    exact ⟨_, _, _, f, _, rfl, Res.nil f (Below.refl _ _), .inr ⟨fun x => HN.out x.1, rfl, rfl⟩⟩
  · have c1 := fun w' hr' => form_c ao n ca f w' (by omega) hr'
    rw [hfa] at c1
    have FA := hid (fm_of hfa)
    have C1 := hid c1
    clear c1 hfa
    cases hfb : fmB h m
    · have c2 := fun w' hr' => form_c bo m cb h w' (by omega) hr'
      rw [hfb] at c2
      have HN := hid (nfm_of hfb)
      have C2 := hid c2
      clear c2 hfb
      go_enter Tryz.func86, Tryz.ntmps86
      go_wp2_with fail
      refine (C1.out _ hr).mono ?_
      rintro e w' ⟨rfl, rfl⟩
      go_wp2_with fail
      refine (C2.out _ hs).mono ?_
      rintro e w' ⟨rfl, rfl⟩
      go_wp2
      go_ret2
      exact ⟨_, _, _, f, _, rfl, Res.nil f (Below.refl _ _), .inr ⟨fun x => HN.out x.2, rfl, rfl⟩⟩
    · have c2 := fun w' hr' => form_c bo m cb h w' (by omega) hr'
      rw [hfb] at c2
      have FB := hid (fm_of hfb)
      have C2 := hid c2
      clear c2 hfb
      go_enter Tryz.func86, Tryz.ntmps86
      go_wp2_with fail
      refine (C1.out _ hr).mono ?_
      rintro e w' ⟨rfl, rfl⟩
      go_wp2_with fail
      refine (C2.out _ hs).mono ?_
      rintro e w' ⟨rfl, rfl⟩
      go_wp2_with fail
      refine (mul_c ao bo n m ca cb f h _ hn hm hca hcb hcam hcbm hr hs HF.out HH.out).mono ?_
      rintro e w' ⟨ao', k, cap', f', rfl, hres, hv⟩
      have HV := hid hv
      clear hv
      go_wp2
      go_ret2
      exact ⟨_, _, _, f', _, rfl, hres, .inl ⟨FA.out, FB.out, rfl, HV.out⟩⟩

/-- What DivMod answers. -/
def DivAns (n m : Nat) (f h : Nat → Int) (k1 k2 : Nat) (q r : Nat → Int) (er : Int) : Prop :=
  Fm f n ∧ Fm h m ∧ 0 < m ∧ er = 0 ∧ vf f n = vf q k1 * vf h m + vf r k2 ∧ 0 ≤ vf r k2 ∧ vf r k2 < vf h m ∨ Fm f n ∧ Fm h m ∧ m = 0 ∧ er = 4 ∧ k1 = 0 ∧ k2 = 0 ∨ ¬ (Fm f n ∧ Fm h m) ∧ er = 3 ∧ k1 = 0 ∧ k2 = 0

set_option maxHeartbeats 800000 in
theorem DivMod_cA (ao bo : Option Addr) (n m ca cb : Nat) (f h : Nat → Int) (w : World) (hn : n ≤ 8796093022208) (hm : m ≤ 8796093022208) (hr : Rd .u64 w ao n f) (hs : Rd .u64 w bo m h) (hf : Lm f n) (hh : Lm h m) :
    Calls Tryz.prog 75 #[.slice ao n ca, .slice bo m cb] w fun e w' => ∃ a1 k1 c1 q a2 k2 c2 r er, e = .returned (.tuple #[.slice a1 k1 c1, .slice a2 k2 c2, .int .i64 er]) ∧ Res n w w' a1 k1 c1 q ∧ Res (n + 1) w w' a2 k2 c2 r ∧ DivAns n m f h k1 k2 q r er ∧ Apart a1 a2 := by
  have HF := (show Hid (Lm f n) from hf)
  have HH := (show Hid (Lm h m) from hh)
  clear hf hh
  cases hfa : fmB f n
  · have c1 := fun w' hr' => form_c ao n ca f w' (by omega) hr'
    rw [hfa] at c1
    have HN := hid (nfm_of hfa)
    have C1 := hid c1
    clear c1 hfa
    go_enter Tryz.func75, Tryz.ntmps75
    go_wp2_with (go_at_call 84; refine (C1.out _ hr).mono ?_; rintro e w' ⟨rfl, rfl⟩)
    go_ret3
    exact ⟨_, _, _, f, _, _, _, f, _, rfl, Res.nil f (Below.refl _ _), Res.nil f (Below.refl _ _), .inr (.inr ⟨fun x => HN.out x.1, rfl, rfl, rfl⟩), apart_none _⟩
  · have c1 := fun w' hr' => form_c ao n ca f w' (by omega) hr'
    rw [hfa] at c1
    have FA := hid (fm_of hfa)
    have C1 := hid c1
    clear c1 hfa
    cases hfb : fmB h m
    · have c2 := fun w' hr' => form_c bo m cb h w' (by omega) hr'
      rw [hfb] at c2
      have HN := hid (nfm_of hfb)
      have C2 := hid c2
      clear c2 hfb
      go_enter Tryz.func75, Tryz.ntmps75
      go_wp2_with fail
      refine (C1.out _ hr).mono ?_
      rintro e w' ⟨rfl, rfl⟩
      go_wp2_with fail
      refine (C2.out _ hs).mono ?_
      rintro e w' ⟨rfl, rfl⟩
      go_wp2
      go_ret3
      exact ⟨_, _, _, f, _, _, _, f, _, rfl, Res.nil f (Below.refl _ _), Res.nil f (Below.refl _ _), .inr (.inr ⟨fun x => HN.out x.2, rfl, rfl, rfl⟩), apart_none _⟩
    · have c2 := fun w' hr' => form_c bo m cb h w' (by omega) hr'
      rw [hfb] at c2
      have FB := hid (fm_of hfb)
      have C2 := hid c2
      clear c2 hfb
      by_cases hm0 : m = 0
      · subst hm0
        go_enter Tryz.func75, Tryz.ntmps75
        go_wp2_with fail
        refine (C1.out _ hr).mono ?_
        rintro e w' ⟨rfl, rfl⟩
        go_wp2_with fail
        refine (C2.out _ hs).mono ?_
        rintro e w' ⟨rfl, rfl⟩
        go_wp2
        go_ret3
        exact ⟨_, _, _, f, _, _, _, f, _, rfl, Res.nil f (Below.refl _ _), Res.nil f (Below.refl _ _), .inr (.inl ⟨FA.out, FB.out, rfl, rfl, rfl, rfl⟩), apart_none _⟩
      · have hmi : ((m : Int) == 0) = false := by simp; omega
        go_enter Tryz.func75, Tryz.ntmps75
        go_wp2_with fail
        refine (C1.out _ hr).mono ?_
        rintro e w' ⟨rfl, rfl⟩
        go_wp2_with fail
        refine (C2.out _ hs).mono ?_
        rintro e w' ⟨rfl, rfl⟩
        go_wp2_with fail
        refine (divMod_cA ao bo n m ca cb f h _ hn hm hr hs HF.out HH.out FA.out FB.out (by omega)).mono ?_
        rintro e w' ⟨a1, k1, c1, q, a2, k2, c2, r, rfl, hres1, hres2, hv, hr0, hr1, hap⟩
        have HV := hid hv; have HR0 := hid hr0; have HR1 := hid hr1; have HAP := hid hap
        clear hv hr0 hr1 hap
        go_wp2
        go_ret3
        exact ⟨_, _, _, q, _, _, _, r, _, rfl, hres1, hres2, .inl ⟨FA.out, FB.out, by omega, rfl, HV.out, HR0.out, HR1.out⟩, HAP.out⟩
theorem DivMod_c (ao bo : Option Addr) (n m ca cb : Nat) (f h : Nat → Int) (w : World) (hn : n ≤ 8796093022208) (hm : m ≤ 8796093022208) (hr : Rd .u64 w ao n f) (hs : Rd .u64 w bo m h) (hf : Lm f n) (hh : Lm h m) :
    Calls Tryz.prog 75 #[.slice ao n ca, .slice bo m cb] w fun e w' => ∃ a1 k1 c1 q a2 k2 c2 r er, e = .returned (.tuple #[.slice a1 k1 c1, .slice a2 k2 c2, .int .i64 er]) ∧ Res n w w' a1 k1 c1 q ∧ Res (n + 1) w w' a2 k2 c2 r ∧ DivAns n m f h k1 k2 q r er :=
  (DivMod_cA ao bo n m ca cb f h w hn hm hr hs hf hh).mono fun _ _ ⟨a1, k1, c1, q, a2, k2, c2, r, er, h1, h2, h3, h4, _⟩ => ⟨a1, k1, c1, q, a2, k2, c2, r, er, h1, h2, h3, h4⟩
end Go.Proofs.YtclopblgdiahiaaGreatDoor
namespace Go.Proofs.YtclopblgdiahiaaGreatDoor
open Go.RowKit

/-- The two numbers that steps lead to. -/
def stU (odd : Bool) (a0 b0 A B : Int) : Int := if odd then b0 * B - a0 * A else a0 * A - b0 * B
def stV (odd : Bool) (a1 b1 A B : Int) : Int := if odd then a1 * A - b1 * B else b1 * B - a1 * A
/-- The same common divisors. -/
def Cd (u v A B : Int) : Prop := ∀ d : Int, (d ∣ u ∧ d ∣ v) ↔ (d ∣ A ∧ d ∣ B)
theorem Cd.refl (A B : Int) : Cd A B A B := fun _ => Iff.rfl
theorem Cd.step {u v A B : Int} (h : Cd u v A B) (q : Int) : Cd v (u - q * v) A B := fun d => by
  rw [← h d]
  constructor
  · rintro ⟨h1, h2⟩
    refine ⟨?_, h1⟩
    have := Int.dvd_add h2 (Int.dvd_mul_of_dvd_right (b := q) h1)
    rwa [Int.sub_add_cancel] at this
  · rintro ⟨h1, h2⟩
    exact ⟨h2, Int.dvd_sub h1 (Int.dvd_mul_of_dvd_right (b := q) h2)⟩
theorem Cd.trans {u v A B C D : Int} (h : Cd u v A B) (k : Cd A B C D) : Cd u v C D := fun d => (h d).trans (k d)
theorem Cd.swap {u v A B : Int} (h : Cd u v A B) : Cd v u A B := fun d => by rw [← h d]; exact And.comm

/-- What some steps lead to, for all numbers that begin with the bits x and y. -/
def Led (odd : Bool) (a0 b0 a1 b1 x y : Int) : Prop := ∀ T ra rb : Int, 0 ≤ ra → ra < T → 0 ≤ rb → rb < T →
  0 ≤ stV odd a1 b1 (x * T + ra) (y * T + rb) ∧ stV odd a1 b1 (x * T + ra) (y * T + rb) < stU odd a0 b0 (x * T + ra) (y * T + rb) ∧ stU odd a0 b0 (x * T + ra) (y * T + rb) ≤ y * T + rb ∧ Cd (stU odd a0 b0 (x * T + ra) (y * T + rb)) (stV odd a1 b1 (x * T + ra) (y * T + rb)) (x * T + ra) (y * T + rb)

/-- The state of the search. -/
structure Lh (odd : Bool) (a b a0 b0 a1 b1 x y : Int) : Prop where
  a_0 : 0 ≤ a
  b_0 : 0 ≤ b
  ua : a = stU odd a0 b0 x y
  ub : b = stV odd a1 b1 x y
  top : x = b1 * a + b0 * b
  p0 : 0 ≤ a0
  p1 : 0 ≤ b0
  p2 : 0 ≤ a1
  p3 : 1 ≤ b1
  st : (odd = false ∧ a0 = 1 ∧ b0 = 0 ∧ a1 = 0 ∧ b1 = 1) ∨ (a0 ≤ b0 ∧ a1 ≤ b1 ∧ 1 ≤ b0 ∧ b1 ≤ b ∧ b < a ∧ Led odd a0 b0 a1 b1 x y)

theorem lh_start {x y : Int} (hx : 0 ≤ x) (hy : 0 ≤ y) : Lh false x y 1 0 0 1 x y :=
  ⟨hx, hy, by simp [stU], by simp [stV], by omega, by omega, by omega, by omega, by omega, .inl ⟨rfl, rfl, rfl, rfl, rfl⟩⟩

theorem stU_next {odd : Bool} {a1 b1 A B : Int} : stU (!odd) a1 b1 A B = stV odd a1 b1 A B := by cases odd <;> simp [stU, stV]
theorem stV_next {odd : Bool} {a0 b0 a1 b1 q A B : Int} : stV (!odd) (a0 + q * a1) (b0 + q * b1) A B = stU odd a0 b0 A B - q * stV odd a1 b1 A B := by
  cases odd <;> simp only [stU, stV, Bool.not_false, Bool.not_true, if_true, if_false, Bool.false_eq_true] <;> grind

/-- A number is near its highest bits. -/
theorem stV_low {odd : Bool} {a1 b1 x y T ra rb : Int} (h0 : 0 ≤ a1) (h1 : a1 ≤ b1) (r0 : 0 ≤ ra) (r1 : ra < T) (s0 : 0 ≤ rb) (s1 : rb < T) :
    stV odd a1 b1 x y * T - b1 * (T - 1) ≤ stV odd a1 b1 (x * T + ra) (y * T + rb) ∧ stV odd a1 b1 (x * T + ra) (y * T + rb) ≤ stV odd a1 b1 x y * T + b1 * (T - 1) := by
  have m1 : 0 ≤ a1 * ra := Int.mul_nonneg h0 r0
  have m2 : 0 ≤ b1 * rb := Int.mul_nonneg (by omega) s0
  have m3 : a1 * ra ≤ b1 * ra := Int.mul_le_mul_of_nonneg_right h1 r0
  have m4 : b1 * ra ≤ b1 * (T - 1) := Int.mul_le_mul_of_nonneg_left (by omega) (by omega)
  have m5 : b1 * rb ≤ b1 * (T - 1) := Int.mul_le_mul_of_nonneg_left (by omega) (by omega)
  cases odd
  · have e : stV false a1 b1 (x * T + ra) (y * T + rb) = stV false a1 b1 x y * T + b1 * rb - a1 * ra := by simp only [stV, Bool.false_eq_true, if_false]; grind
    rw [e]; omega
  · have e : stV true a1 b1 (x * T + ra) (y * T + rb) = stV true a1 b1 x y * T + a1 * ra - b1 * rb := by simp only [stV, if_true]; grind
    rw [e]; omega

/-- One step, where Collins' condition holds. -/
theorem lh_step {odd : Bool} {a b a0 b0 a1 b1 x y : Int} (h : Lh odd a b a0 b0 a1 b1 x y) (hxy : y ≤ x) (hb : 0 < b) (c1 : b0 + a / b * b1 ≤ a - a / b * b) (c2 : b1 + (b0 + a / b * b1) ≤ b - (a - a / b * b)) :
    Lh (!odd) b (a - a / b * b) a1 b1 (a0 + a / b * a1) (b0 + a / b * b1) x y := by
  obtain ⟨q, hq⟩ : ∃ q, a / b = q := ⟨_, rfl⟩
  rw [hq] at c1 c2 ⊢
  have hq0 : 0 ≤ q := by rw [← hq]; exact Int.ediv_nonneg h.a_0 h.b_0
  have hr0 : 0 ≤ a - q * b := by
    have := Int.emod_nonneg a (show b ≠ 0 by omega); have e := Int.mul_ediv_add_emod a b
    rw [hq, Int.mul_comm] at e; omega
  have hb1 : 0 ≤ q * b1 := Int.mul_nonneg hq0 (by have := h.p3; omega)
  have ha1 : 0 ≤ q * a1 := Int.mul_nonneg hq0 h.p2
  have p0 := h.p0; have p1 := h.p1; have p2 := h.p2; have p3 := h.p3
  have hua := h.ua; have hub := h.ub; have htop := h.top
  -- the quotient is not 0 at the first step
  have hmono : a0 + q * a1 ≤ b0 + q * b1 ∧ a1 ≤ b1 := by
    rcases h.st with ⟨rfl, rfl, rfl, rfl, rfl⟩ | ⟨s1, s2, _, _, _, _⟩
    · have ea : a = x := by rw [hua]; simp [stU]
      have eb : b = y := by rw [hub]; simp [stV]
      have : 1 ≤ q := by rw [← hq]; exact (Int.le_ediv_iff_mul_le hb).2 (by omega)
      omega
    · have : q * a1 ≤ q * b1 := Int.mul_le_mul_of_nonneg_left s2 hq0
      omega
  have hb1' : 1 ≤ b0 + q * b1 := by
    rcases h.st with ⟨rfl, rfl, rfl, rfl, rfl⟩ | ⟨s1, s2, s3, _, _, _⟩
    · omega
    · omega
  refine ⟨h.b_0, hr0, ?_, ?_, ?_, p2, by omega, by omega, hb1', .inr ⟨hmono.2, hmono.1, p3, c1, by omega, ?_⟩⟩
  · rw [stU_next]; exact hub
  · rw [stV_next, ← hua, ← hub]
  · rw [htop]; grind
  · intro T ra rb r0 r1 s0 s1
    have hV : stV (!odd) (a0 + q * a1) (b0 + q * b1) x y = a - q * b := by rw [stV_next, ← hua, ← hub]
    have lo := stV_low (odd := !odd) (x := x) (y := y) (by omega) hmono.1 r0 r1 s0 s1
    have lo2 := stV_low (odd := odd) (x := x) (y := y) p2 hmono.2 r0 r1 s0 s1
    rw [hV] at lo
    rw [← hub] at lo2
    have hT : 1 ≤ T := by omega
    have k1 : (b0 + q * b1) * T ≤ (a - q * b) * T := Int.mul_le_mul_of_nonneg_right c1 (by omega)
    have k2 : (b1 + (b0 + q * b1)) * T ≤ (b - (a - q * b)) * T := Int.mul_le_mul_of_nonneg_right c2 (by omega)
    have x1 : (b0 + q * b1) * (T - 1) = (b0 + q * b1) * T - (b0 + q * b1) := by rw [Int.mul_sub, Int.mul_one]
    have x2 : b1 * (T - 1) = b1 * T - b1 := by rw [Int.mul_sub, Int.mul_one]
    have x3 : (b1 + (b0 + q * b1)) * T = b1 * T + (b0 + q * b1) * T := by rw [Int.add_mul]
    have x4 : (b - (a - q * b)) * T = b * T - (a - q * b) * T := by rw [Int.sub_mul]
    rw [stU_next]
    refine ⟨by omega, by omega, ?_, ?_⟩
    · rcases h.st with ⟨rfl, rfl, rfl, rfl, rfl⟩ | ⟨_, _, _, _, _, hl⟩
      · simp [stV]
      · obtain ⟨_, l2, l3, _⟩ := hl T ra rb r0 r1 s0 s1
        omega
    · rw [stV_next]
      refine Cd.step ?_ q
      rcases h.st with ⟨rfl, rfl, rfl, rfl, rfl⟩ | ⟨_, _, _, _, _, hl⟩
      · simp only [stU, stV, Bool.false_eq_true, if_false]
        have e1 : 1 * (x * T + ra) - 0 * (y * T + rb) = x * T + ra := by omega
        have e2 : 1 * (y * T + rb) - 0 * (x * T + ra) = y * T + rb := by omega
        rw [e1, e2]; exact Cd.refl _ _
      · exact (hl T ra rb r0 r1 s0 s1).2.2.2
/-- The new factors are at most x. -/
theorem lh_room {odd : Bool} {a b a0 b0 a1 b1 x y : Int} (h : Lh odd a b a0 b0 a1 b1 x y) (hxy : y ≤ x) (hb : 0 < b) : b0 + a / b * b1 ≤ x ∧ a0 + a / b * a1 ≤ x ∧ 0 ≤ a / b * a1 ∧ 0 ≤ a / b * b1 ∧ (0 < a - a / b * b → b1 + (b0 + a / b * b1) ≤ x) ∧ 1 ≤ b0 + a / b * b1 := by
  obtain ⟨q, hq⟩ : ∃ q, a / b = q := ⟨_, rfl⟩
  rw [hq]
  have hq0 : 0 ≤ q := by rw [← hq]; exact Int.ediv_nonneg h.a_0 h.b_0
  have hr0 : 0 ≤ a - q * b := by
    have := Int.emod_nonneg a (show b ≠ 0 by omega); have e := Int.mul_ediv_add_emod a b
    rw [hq, Int.mul_comm] at e; omega
  have p0 := h.p0; have p1 := h.p1; have p2 := h.p2; have p3 := h.p3
  have hb1 : 0 ≤ q * b1 := Int.mul_nonneg hq0 (by omega)
  have ha1 : 0 ≤ q * a1 := Int.mul_nonneg hq0 h.p2
  have e : x = (b0 + q * b1) * b + b1 * (a - q * b) := by rw [h.top]; grind
  have f1 : (b0 + q * b1) * 1 ≤ (b0 + q * b1) * b := Int.mul_le_mul_of_nonneg_left (by omega) (by omega)
  have f2 : 0 ≤ b1 * (a - q * b) := Int.mul_nonneg (by omega) hr0
  refine ⟨by omega, ?_, ha1, hb1, fun hp => ?_, ?_⟩
  · rcases h.st with ⟨rfl, rfl, rfl, rfl, rfl⟩ | ⟨s1, s2, _, _, _, _⟩
    · have eb : b = y := by rw [h.ub]; simp [stV]
      omega
    · have : q * a1 ≤ q * b1 := Int.mul_le_mul_of_nonneg_left s2 hq0
      omega
  · have f3 : b1 * 1 ≤ b1 * (a - q * b) := Int.mul_le_mul_of_nonneg_left (by omega) (by omega)
    omega
  · rcases h.st with ⟨rfl, rfl, rfl, rfl, rfl⟩ | ⟨s1, s2, s3, _, _, _⟩
    · have ea : a = x := by rw [h.ua]; simp [stU]
      have eb : b = y := by rw [h.ub]; simp [stV]
      have : 1 ≤ q := by rw [← hq]; exact (Int.le_ediv_iff_mul_le hb).2 (by omega)
      omega
    · omega
/-- Some steps: their factors have room, and what they lead to. -/
theorem lh_some {odd : Bool} {a b a0 b0 a1 b1 x y : Int} (h : Lh odd a b a0 b0 a1 b1 x y) (hb0 : b0 ≠ 0) : Led odd a0 b0 a1 b1 x y ∧ a0 + 2 ≤ x ∧ b0 + 2 ≤ x ∧ a1 + 2 ≤ x ∧ b1 + 2 ≤ x := by
  rcases h.st with ⟨_, _, h0, _⟩ | ⟨s1, s2, s3, s4, s5, hl⟩
  · exact absurd h0 hb0
  · have p3 := h.p3; have p1 := h.p1
    have e := h.top
    have m1 : b1 * 2 ≤ b1 * a := Int.mul_le_mul_of_nonneg_left (by omega) (by omega)
    have m2 : b0 * 1 ≤ b0 * b := Int.mul_le_mul_of_nonneg_left (by omega) (by omega)
    exact ⟨hl, by omega, by omega, by omega, by omega⟩
theorem lh_none {odd : Bool} {a b a0 b0 a1 b1 x y : Int} (h : Lh odd a b a0 b0 a1 b1 x y) : 0 ≤ a0 ∧ 0 ≤ b0 ∧ 0 ≤ a1 ∧ 0 ≤ b1 := ⟨h.p0, h.p1, h.p2, by have := h.p3; omega⟩
end Go.Proofs.YtclopblgdiahiaaGreatDoor
namespace Go.Proofs.YtclopblgdiahiaaGreatDoor
open Go.RowKit

/-- Block g holds the five fields of steps. -/
def SB (w : World) (g : Nat) (a0 b0 a1 b1 : Int) (odd : Bool) : Prop := w.heap[g]? = some (.cells #[.int .u64 a0, .int .u64 b0, .int .u64 a1, .int .u64 b1, .bool odd] 183 (0, 0))
theorem SB.cells {w g a0 b0 a1 b1 odd} (h : SB w g a0 b0 a1 b1 odd) : w.cell? ⟨g, 0, none⟩ = some (.int .u64 a0) ∧ w.cell? ⟨g, 1, none⟩ = some (.int .u64 b0) ∧ w.cell? ⟨g, 2, none⟩ = some (.int .u64 a1) ∧ w.cell? ⟨g, 3, none⟩ = some (.int .u64 b1) ∧ w.cell? ⟨g, 4, none⟩ = some (.bool odd) := by
  unfold SB at h
  simp [World.cell?, h]
theorem SB.frozen {w g a0 b0 a1 b1 odd} (h : SB w g a0 b0 a1 b1 odd) (j : Nat) : w.frozen? ⟨g, j, none⟩ = false := by
  unfold SB at h
  simp [World.frozen?, h]
theorem SB.lt {w g a0 b0 a1 b1 odd} (h : SB w g a0 b0 a1 b1 odd) : g < w.heap.size := (Array.getElem?_eq_some_iff.1 h).1
theorem SB.below {w w' g a0 b0 a1 b1 odd} (h : SB w g a0 b0 a1 b1 odd) (hb : Below w.heap.size w w') : SB w' g a0 b0 a1 b1 odd := (hb.block g h.lt).trans h

theorem SB.set5 {w g a0 b0 a1 b1 odd} (h : SB w g a0 b0 a1 b1 odd) (c0 d0 c1 d1 : Int) (o : Bool) : SB (((((w.setCell ⟨g, 0, none⟩ (.int .u64 c0)).setCell ⟨g, 1, none⟩ (.int .u64 d0)).setCell ⟨g, 2, none⟩ (.int .u64 c1)).setCell ⟨g, 3, none⟩ (.int .u64 d1)).setCell ⟨g, 4, none⟩ (.bool o)) g c0 d0 c1 d1 o := by
  unfold SB at h ⊢
  simp [World.setCell, Array.getElem?_modify, h]
theorem only_set5 (w : World) (g : Nat) (u0 u1 u2 u3 u4 : Value) : Only g w (((((w.setCell ⟨g, 0, none⟩ u0).setCell ⟨g, 1, none⟩ u1).setCell ⟨g, 2, none⟩ u2).setCell ⟨g, 3, none⟩ u3).setCell ⟨g, 4, none⟩ u4) :=
  (((((Only.refl _ _).setCell _ _ _).setCell _ _ _).setCell _ _ _).setCell _ _ _).setCell _ _ _
/-- What findSteps answers. -/
def FsAns (w w' : World) (e : Ending) (x y : Int) : Prop := Below w.heap.size w w' ∧ ∃ a0 b0 a1 b1 odd a b, e = .returned (.agg #[.int .u64 a0, .int .u64 b0, .int .u64 a1, .int .u64 b1, .bool odd]) ∧ Lh odd a b a0 b0 a1 b1 x y ∧ b0 ≤ x ∧ a0 ≤ x ∧ a1 ≤ x ∧ b1 ≤ x

set_option maxRecDepth 100000 in
set_option maxHeartbeats 4000000 in
theorem findSteps_c (x y : Int) (w : World) (y0 : 0 ≤ y) (hyx : y ≤ x) (x0 : 1 ≤ x) (x1 : x < 18446744073709551616) :
    Calls Tryz.prog 199 #[.int .u64 x, .int .u64 y] w fun e w' => FsAns w w' e x y := by
  go_enter Tryz.func199, Tryz.ntmps199
  go_wp2
  go_loopw [0, 1] (fun c d wr => ∃ (a b a0 b0 a1 b1 : Int) (odd : Bool), c = .int .u64 a ∧ d = .int .u64 b ∧ 0 ≤ a ∧ a ≤ x ∧ 0 ≤ b ∧ b ≤ x ∧ Below w.heap.size w wr ∧ Hid (SB wr w.heap.size 0 0 0 0 false) ∧ Hid (SB wr (w.heap.size + 1) a0 b0 a1 b1 odd) ∧ Hid (Lh odd a b a0 b0 a1 b1 x y) ∧ Hid (b0 ≤ x ∧ a0 ≤ x ∧ a1 ≤ x ∧ b1 ≤ x)) (fun _ d _ => (intOf d).toNat)
  case atStart =>
    refine ⟨x, y, 1, 0, 0, 1, false, rfl, rfl, by omega, by omega, by omega, by omega, ((Below.refl _ _).alloc (Nat.le_refl _) _).alloc (by simp) _, ?_, ?_, lh_start (by omega) y0, ?_⟩
    · exact Below.heap_alloc _ _ _ (by simp) |>.trans (heap_alloc_new w _)
    · show _ = _
      have := heap_alloc_new (w.alloc (.cells #[.int .u64 0, .int .u64 0, .int .u64 0, .int .u64 0, .bool false] 183)) (.cells #[.int .u64 1, .int .u64 0, .int .u64 0, .int .u64 1, .bool false] 183)
      simpa using this
    · show _ ∧ _ ∧ _ ∧ _
      omega
  case round =>
    obtain ⟨a, b, a0, b0, a1, b1, odd, rfl, rfl, ha0, hax, hb0, hbx, hbel, HG, HS, HL, HX⟩ := hrel
    obtain ⟨s0, s1, s2, s3, s4⟩ := HS.out.cells
    obtain ⟨r0, r1, r2, r3, r4⟩ := HG.out.cells
    have fz := HS.out.frozen
    have fr := HG.out.frozen
    have alS : ∀ o, SB (wr.alloc o) (w.heap.size + 1) a0 b0 a1 b1 odd := fun o => HS.out.below ((Below.refl _ _).alloc (Nat.le_refl _) o)
    have alG : ∀ o, SB (wr.alloc o) w.heap.size 0 0 0 0 false := fun o => HG.out.below ((Below.refl _ _).alloc (Nat.le_refl _) o)
    have sa0 := fun o => (alS o).cells.1
    have sa1 := fun o => (alS o).cells.2.1
    have sa2 := fun o => (alS o).cells.2.2.1
    have sa3 := fun o => (alS o).cells.2.2.2.1
    have sa4 := fun o => (alS o).cells.2.2.2.2
    have ga0 := fun o => (alG o).cells.1
    have ga1 := fun o => (alG o).cells.2.1
    have ga2 := fun o => (alG o).cells.2.2.1
    have ga3 := fun o => (alG o).cells.2.2.2.1
    have ga4 := fun o => (alG o).cells.2.2.2.2
    have fza := fun o => (alS o).frozen
    have fra := fun o => (alG o).frozen
    have ltS := HS.out.lt
    clear alS alG
    by_cases hbz : b = 0
    · subst hbz
      go_wp2
      obtain ⟨t0, t1, t2, t3, t4⟩ := (HG.out.set5 a0 b0 a1 b1 odd).cells
      refine bodyPost_ret (v := .agg #[.int .u64 a0, .int .u64 b0, .int .u64 a1, .int .u64 b1, .bool odd]) (by simp [results, Tryz.results199, go_sem, t0, t1, t2, t3, t4]) rfl ⟨?_, a0, b0, a1, b1, odd, _, _, rfl, HL.out, HX.out⟩
      exact below_only hbel (only_set5 _ _ _ _ _ _ _) (Nat.le_refl _) hbel.size
    · have hbp : 0 < b := by omega
      have hbb : (b != 0) = true := by simp [hbz]
      obtain ⟨m1, m2, m3, m4, m5, m6⟩ := lh_room HL.out hyx hbp
      have cstep := lh_step HL.out hyx hbp
      obtain ⟨q, hq⟩ : ∃ q, a / b = q := ⟨_, rfl⟩
      have hq0 : 0 ≤ q := by rw [← hq]; exact Int.ediv_nonneg ha0 hb0
      have hpr : 0 ≤ a - q * b ∧ a - q * b < b ∧ 0 ≤ q * b := by
        have e1 := Int.emod_nonneg a hbz; have e2 := Int.emod_lt_of_pos a hbp; have e := Int.mul_ediv_add_emod a b
        rw [hq, Int.mul_comm] at e
        exact ⟨by omega, by omega, Int.mul_nonneg hq0 hb0⟩
      rw [hq] at m1 m2 m3 m4 m5 m6 cstep
      obtain ⟨p, hp⟩ : ∃ p, q * b = p := ⟨_, rfl⟩
      obtain ⟨qa, hqa⟩ : ∃ p, q * a1 = p := ⟨_, rfl⟩
      obtain ⟨qb, hqb⟩ : ∃ p, q * b1 = p := ⟨_, rfl⟩
      rw [hp] at hpr m5 cstep
      rw [hqa] at m2 m3 cstep
      rw [hqb] at m1 m4 m5 m6 cstep
      obtain ⟨p1, p2, p3⟩ := hpr
      obtain ⟨l0, l1, l2, l3⟩ := (⟨HL.out.p0, HL.out.p1, HL.out.p2, HL.out.p3⟩ : 0 ≤ a0 ∧ 0 ≤ b0 ∧ 0 ≤ a1 ∧ 1 ≤ b1)
      obtain ⟨z1, z2, z3, z4⟩ := HX.out
      have CS := hid cstep
      have M5 := hid m5
      clear cstep m5
      by_cases c1 : a - p < b0 + qb
      · have c1b : decide (a - p < b0 + qb) = true := by simp [c1]
        go_wp2
        obtain ⟨t0, t1, t2, t3, t4⟩ := ((HG.out.below ((Below.refl _ _).alloc (Nat.le_refl _) (.cells #[.int .u64 a1, .int .u64 b1, .int .u64 (a0 + qa), .int .u64 (b0 + qb), .bool !odd] 183))).set5 a0 b0 a1 b1 odd).cells
        refine bodyPost_ret (v := .agg #[.int .u64 a0, .int .u64 b0, .int .u64 a1, .int .u64 b1, .bool odd]) (by simp [results, Tryz.results199, go_sem, t0, t1, t2, t3, t4]) rfl ⟨?_, a0, b0, a1, b1, odd, _, _, rfl, HL.out, HX.out⟩
        exact below_only (hbel.alloc hbel.size _) (only_set5 _ _ _ _ _ _ _) (Nat.le_refl _) (by have := hbel.size; simp; omega)
      · have c1b : decide (a - p < b0 + qb) = false := by simp; omega
        have hm5 := M5.out (by omega)
        by_cases c2 : b - (a - p) < b1 + (b0 + qb)
        · have c2b : decide (b - (a - p) < b1 + (b0 + qb)) = true := by simp [c2]
          go_wp2
          obtain ⟨t0, t1, t2, t3, t4⟩ := ((HG.out.below ((Below.refl _ _).alloc (Nat.le_refl _) (.cells #[.int .u64 a1, .int .u64 b1, .int .u64 (a0 + qa), .int .u64 (b0 + qb), .bool !odd] 183))).set5 a0 b0 a1 b1 odd).cells
          refine bodyPost_ret (v := .agg #[.int .u64 a0, .int .u64 b0, .int .u64 a1, .int .u64 b1, .bool odd]) (by simp [results, Tryz.results199, go_sem, t0, t1, t2, t3, t4]) rfl ⟨?_, a0, b0, a1, b1, odd, _, _, rfl, HL.out, HX.out⟩
          exact below_only (hbel.alloc hbel.size _) (only_set5 _ _ _ _ _ _ _) (Nat.le_refl _) (by have := hbel.size; simp; omega)
        · have c2b : decide (b - (a - p) < b1 + (b0 + qb)) = false := by simp; omega
          have NX := hid (CS.out (by omega) (by omega))
          go_wp2
          go_region
          all_goals
            go_wp2
            go_roundw
            case rel =>
              have o1 : Only (w.heap.size + 1) wr _ := only_set5 wr (w.heap.size + 1) (.int .u64 a1) (.int .u64 b1) (.int .u64 (a0 + qa)) (.int .u64 (b0 + qb)) (.bool !odd)
              have b1' := below_only hbel o1 (by omega) hbel.size
              refine ⟨b, a - p, a1, b1, a0 + qa, b0 + qb, !odd, rfl, rfl, by omega, by omega, by omega, by omega, (b1'.alloc b1'.size _).drew, ?_, ?_, NX.out, ?_⟩
              · exact (show SB _ _ _ _ _ _ _ from (o1.block _ HG.out.lt (by omega)).trans HG.out).below ((Below.refl _ _).alloc (Nat.le_refl _) _).drew
              · exact (HS.out.set5 a1 b1 (a0 + qa) (b0 + qb) (!odd)).below ((Below.refl _ _).alloc (Nat.le_refl _) _).drew
              · show _ ∧ _ ∧ _ ∧ _
                omega
            case measure => simp [intOf]; omega
end Go.Proofs.YtclopblgdiahiaaGreatDoor
namespace Go.Proofs.YtclopblgdiahiaaGreatDoor
open Go.RowKit

/-- The bits of two limbs, put together. -/
theorem bits_two (h l s : Int) (h0 : 0 ≤ h) (l0 : 0 ≤ l) (l1 : l < 18446744073709551616) (s0 : 0 ≤ s) (s1 : s ≤ 63) (hh : h < 2 ^ (64 - s).toNat) :
    ∃ H D Z, IntKind.u64.wrap (h * 2 ^ s.toNat) = H ∧ 0 ≤ H ∧ H < 18446744073709551616 ∧ l / 2 ^ (64 - s).toNat = D ∧ 0 ≤ D ∧ D < 18446744073709551616 ∧ bits BinOp.or .u64 H D = Z ∧ 0 ≤ Z ∧ Z < 18446744073709551616 ∧ Hid (h * 18446744073709551616 + l = Z * 2 ^ (64 - s).toNat + l % 2 ^ (64 - s).toNat) := by
  have hPQ : (2 : Int) ^ s.toNat * 2 ^ (64 - s).toNat = 18446744073709551616 := by rw [← Int.pow_add, show s.toNat + (64 - s).toNat = 64 by omega]; rfl
  have p0 : (0 : Int) < 2 ^ s.toNat := Int.pow_pos (by decide)
  have q0 : (0 : Int) < 2 ^ (64 - s).toNat := Int.pow_pos (by decide)
  obtain ⟨P, hP⟩ : ∃ P : Int, 2 ^ s.toNat = P := ⟨_, rfl⟩
  obtain ⟨Q, hQ⟩ : ∃ Q : Int, 2 ^ (64 - s).toNat = Q := ⟨_, rfl⟩
  have d1 : l / Q < P := Int.ediv_lt_of_lt_mul (by omega) (by rw [← hP, ← hQ, hPQ]; exact l1)
  have d0 : 0 ≤ l / Q := Int.ediv_nonneg l0 (by omega)
  have h1 : (h + 1) * P ≤ Q * P := Int.mul_le_mul_of_nonneg_right (by omega) (by omega)
  have hPQ' : Q * P = 18446744073709551616 := by rw [← hP, ← hQ, Int.mul_comm]; exact hPQ
  have hP0 : 0 ≤ h * P := Int.mul_nonneg h0 (by omega)
  rw [Int.add_mul, Int.one_mul, hPQ'] at h1
  have hPle : P ≤ 18446744073709551616 := by omega
  have hw : IntKind.u64.wrap (h * 2 ^ s.toNat) = h * P := by rw [hP, IntKind.wrap_u64]; omega
  refine ⟨_, _, h * P + l / Q, hw, hP0, by omega, rfl, by rw [hQ]; exact d0, by rw [hQ]; omega, ?_, ?_, ?_, ?_⟩
  · rw [hQ]
    exact bits_join .u64 64 (by decide) wraps_u64 s.toNat _ _ hP0 (by rw [hP]; exact Int.mul_emod_left _ _) (by omega) d0 (by rw [hP]; exact d1) (by omega)
  · omega
  · omega
  · show _ = _
    rw [hQ]
    have e := Int.mul_ediv_add_emod l Q
    rw [Int.add_mul, Int.mul_assoc, Int.mul_comm P Q, hPQ', Int.mul_comm (l / Q) Q]
    omega

set_option maxRecDepth 100000 in
set_option maxHeartbeats 1000000 in
theorem bitsFrom_c (ao : Option Addr) (n cap k : Nat) (z : Int) (f : Nat → Int) (s : Int) (w : World) (hn : n ≤ 140737488355328) (hk : k + 1 ≤ 140737488355328) (hz : z = (k : Int) + 1) (hr : Rd .u64 w ao n f) (hf : Lm f n) (s0 : 0 ≤ s) (s1 : s ≤ 63) (hh : ext f n (k + 1) < 2 ^ (64 - s).toNat) :
    ∃ Z, 0 ≤ Z ∧ Z < 18446744073709551616 ∧ ext f n (k + 1) * 18446744073709551616 + ext f n k = Z * 2 ^ (64 - s).toNat + ext f n k % 2 ^ (64 - s).toNat ∧ Calls Tryz.prog 207 #[.slice ao n cap, .int .i64 z, .int .i64 s] w fun e w' => e = .returned (.int .u64 Z) ∧ ∃ q, w' = w.drewN q := by
  have lm : ∀ j, 0 ≤ ext f n j ∧ ext f n j < 18446744073709551616 := fun j => by
    by_cases hj : j < n
    · rw [ext_in _ _ _ hj]; exact hf j hj
    · rw [ext_out _ _ _ (by omega)]; omega
  have C1 := hid (fun W (h : Rd .u64 W ao n f) => limbAt_c ao n cap f (k + 1) W hn hk h)
  have C2 := hid (fun W (h : Rd .u64 W ao n f) => limbAt_c ao n cap f k W hn (by omega) h)
  obtain ⟨x, hx⟩ : ∃ x, ext f n (k + 1) = x := ⟨_, rfl⟩
  obtain ⟨y, hy⟩ : ∃ y, ext f n k = y := ⟨_, rfl⟩
  have lx := lm (k + 1); have ly := lm k
  rw [hx] at lx hh C1 ⊢
  rw [hy] at ly C2 ⊢
  obtain ⟨H, D, Z, e1, H0, H1, e2, D0, D1, e3, Z0, Z1, HZ⟩ := bits_two x y s lx.1 ly.1 ly.2 s0 s1 hh
  refine ⟨Z, Z0, Z1, HZ.out, ?_⟩
  have HR := hid hr
  obtain ⟨x0, x1⟩ := lx
  obtain ⟨y0, y1⟩ := ly
  have z0 : 1 ≤ z := by omega
  have z1 : z ≤ 140737488355328 := by omega
  have C3 := C2
  rw [show ((k + 1 : Nat) : Int) = z by omega] at C1
  rw [show ((k : Nat) : Int) = z - 1 by omega] at C3
  have C4 := C3
  rw [show z - 1 = IntKind.i64.wrap (z - 1) by rw [IntKind.wrap_i64]; omega] at C4
  have D1 := hid (fun q => (C1.out (w.drewN q) (show Rd .u64 (w.drewN q) ao n f from hr)).mono (R' := fun e w'' => e = .returned (.int .u64 x) ∧ ∃ n, w'' = w.drewN n) (fun _ _ h => ⟨h.1, _, h.2⟩))
  have D3 := hid (fun q => (C3.out (w.drewN q) (show Rd .u64 (w.drewN q) ao n f from hr)).mono (R' := fun e w'' => e = .returned (.int .u64 y) ∧ ∃ n, w'' = w.drewN n) (fun _ _ h => ⟨h.1, _, h.2⟩))
  have D4 := hid (fun q => (C4.out (w.drewN q) (show Rd .u64 (w.drewN q) ao n f from hr)).mono (R' := fun e w'' => e = .returned (.int .u64 y) ∧ ∃ n, w'' = w.drewN n) (fun _ _ h => ⟨h.1, _, h.2⟩))
  clear hr hf lm hx hy hh hz C2 hk C1 C3 C4
  go_enter Tryz.func207, Tryz.ntmps207
  go_wp2
  go_quiet (first | (go_at_call 161; with_reducible exact D1.out _) | (go_at_call 161; with_reducible exact D3.out _) | (go_at_call 161; with_reducible exact D4.out _))
  go_wp2
  go_ret
  exact ⟨rfl, _, rfl⟩
end Go.Proofs.YtclopblgdiahiaaGreatDoor

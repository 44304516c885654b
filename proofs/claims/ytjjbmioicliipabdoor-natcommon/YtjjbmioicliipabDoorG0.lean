/-
  Euclid's steps by the highest bits (Lehmer's way, Collins' condition), on plain numbers. No Go text is named here.
-/
import Derived.Test.YtjjbmioicliipabDoorMem
namespace Go.Proofs.YtjjbmioicliipabDoor
open Go.RowKit

/-- The two numbers that steps lead to. -/
def stU (odd : Bool) (a0 b0 A B : Int) : Int := if odd then b0 * B - a0 * A else a0 * A - b0 * B
def stV (odd : Bool) (a1 b1 A B : Int) : Int := if odd then a1 * A - b1 * B else b1 * B - a1 * A
/-- The same common divisors. -/
def Cd (u v A B : Int) : Prop := ∀ d : Int, (d ∣ u ∧ d ∣ v) ↔ (d ∣ A ∧ d ∣ B)
theorem Cd.refl (A B : Int) : Cd A B A B := fun _ => Iff.rfl
theorem Cd.step {u v A B : Int} (h : Cd u v A B) (q : Int) : Cd v (u - q * v) A B := fun d => by
  rw [← h d]
  constructor
  · rintro ⟨h1, h2⟩
    refine ⟨?_, h1⟩
    have := Int.dvd_add h2 (Int.dvd_mul_of_dvd_right (b := q) h1)
    rwa [Int.sub_add_cancel] at this
  · rintro ⟨h1, h2⟩
    exact ⟨h2, Int.dvd_sub h1 (Int.dvd_mul_of_dvd_right (b := q) h2)⟩
theorem Cd.trans {u v A B C D : Int} (h : Cd u v A B) (k : Cd A B C D) : Cd u v C D := fun d => (h d).trans (k d)
theorem Cd.swap {u v A B : Int} (h : Cd u v A B) : Cd v u A B := fun d => by rw [← h d]; exact And.comm

/-- What some steps lead to, for all numbers that begin with the bits x and y. -/
def Led (odd : Bool) (a0 b0 a1 b1 x y : Int) : Prop := ∀ T ra rb : Int, 0 ≤ ra → ra < T → 0 ≤ rb → rb < T →
  0 ≤ stV odd a1 b1 (x * T + ra) (y * T + rb) ∧ stV odd a1 b1 (x * T + ra) (y * T + rb) < stU odd a0 b0 (x * T + ra) (y * T + rb) ∧ stU odd a0 b0 (x * T + ra) (y * T + rb) ≤ y * T + rb ∧ Cd (stU odd a0 b0 (x * T + ra) (y * T + rb)) (stV odd a1 b1 (x * T + ra) (y * T + rb)) (x * T + ra) (y * T + rb)

/-- The state of the search. -/
structure Lh (odd : Bool) (a b a0 b0 a1 b1 x y : Int) : Prop where
  a_0 : 0 ≤ a
  b_0 : 0 ≤ b
  ua : a = stU odd a0 b0 x y
  ub : b = stV odd a1 b1 x y
  top : x = b1 * a + b0 * b
  p0 : 0 ≤ a0
  p1 : 0 ≤ b0
  p2 : 0 ≤ a1
  p3 : 1 ≤ b1
  st : (odd = false ∧ a0 = 1 ∧ b0 = 0 ∧ a1 = 0 ∧ b1 = 1) ∨ (a0 ≤ b0 ∧ a1 ≤ b1 ∧ 1 ≤ b0 ∧ b1 ≤ b ∧ b < a ∧ Led odd a0 b0 a1 b1 x y)

theorem lh_start {x y : Int} (hx : 0 ≤ x) (hy : 0 ≤ y) : Lh false x y 1 0 0 1 x y :=
  ⟨hx, hy, by simp [stU], by simp [stV], by omega, by omega, by omega, by omega, by omega, .inl ⟨rfl, rfl, rfl, rfl, rfl⟩⟩

theorem stU_next {odd : Bool} {a1 b1 A B : Int} : stU (!odd) a1 b1 A B = stV odd a1 b1 A B := by cases odd <;> simp [stU, stV]
theorem stV_next {odd : Bool} {a0 b0 a1 b1 q A B : Int} : stV (!odd) (a0 + q * a1) (b0 + q * b1) A B = stU odd a0 b0 A B - q * stV odd a1 b1 A B := by
  cases odd <;> simp only [stU, stV, Bool.not_false, Bool.not_true, if_true, if_false, Bool.false_eq_true] <;> grind

/-- A number is near its highest bits. -/
theorem stV_low {odd : Bool} {a1 b1 x y T ra rb : Int} (h0 : 0 ≤ a1) (h1 : a1 ≤ b1) (r0 : 0 ≤ ra) (r1 : ra < T) (s0 : 0 ≤ rb) (s1 : rb < T) :
    stV odd a1 b1 x y * T - b1 * (T - 1) ≤ stV odd a1 b1 (x * T + ra) (y * T + rb) ∧ stV odd a1 b1 (x * T + ra) (y * T + rb) ≤ stV odd a1 b1 x y * T + b1 * (T - 1) := by
  have m1 : 0 ≤ a1 * ra := Int.mul_nonneg h0 r0
  have m2 : 0 ≤ b1 * rb := Int.mul_nonneg (by omega) s0
  have m3 : a1 * ra ≤ b1 * ra := Int.mul_le_mul_of_nonneg_right h1 r0
  have m4 : b1 * ra ≤ b1 * (T - 1) := Int.mul_le_mul_of_nonneg_left (by omega) (by omega)
  have m5 : b1 * rb ≤ b1 * (T - 1) := Int.mul_le_mul_of_nonneg_left (by omega) (by omega)
  cases odd
  · have e : stV false a1 b1 (x * T + ra) (y * T + rb) = stV false a1 b1 x y * T + b1 * rb - a1 * ra := by simp only [stV, Bool.false_eq_true, if_false]; grind
    rw [e]; omega
  · have e : stV true a1 b1 (x * T + ra) (y * T + rb) = stV true a1 b1 x y * T + a1 * ra - b1 * rb := by simp only [stV, if_true]; grind
    rw [e]; omega

/-- One step, where Collins' condition holds. -/
theorem lh_step {odd : Bool} {a b a0 b0 a1 b1 x y : Int} (h : Lh odd a b a0 b0 a1 b1 x y) (hxy : y ≤ x) (hb : 0 < b) (c1 : b0 + a / b * b1 ≤ a - a / b * b) (c2 : b1 + (b0 + a / b * b1) ≤ b - (a - a / b * b)) :
    Lh (!odd) b (a - a / b * b) a1 b1 (a0 + a / b * a1) (b0 + a / b * b1) x y := by
  obtain ⟨q, hq⟩ : ∃ q, a / b = q := ⟨_, rfl⟩
  rw [hq] at c1 c2 ⊢
  have hq0 : 0 ≤ q := by rw [← hq]; exact Int.ediv_nonneg h.a_0 h.b_0
  have hr0 : 0 ≤ a - q * b := by
    have := Int.emod_nonneg a (show b ≠ 0 by omega); have e := Int.mul_ediv_add_emod a b
    rw [hq, Int.mul_comm] at e; omega
  have hb1 : 0 ≤ q * b1 := Int.mul_nonneg hq0 (by have := h.p3; omega)
  have ha1 : 0 ≤ q * a1 := Int.mul_nonneg hq0 h.p2
  have p0 := h.p0; have p1 := h.p1; have p2 := h.p2; have p3 := h.p3
  have hua := h.ua; have hub := h.ub; have htop := h.top
  -- the quotient is not 0 at the first step
  have hmono : a0 + q * a1 ≤ b0 + q * b1 ∧ a1 ≤ b1 := by
    rcases h.st with ⟨rfl, rfl, rfl, rfl, rfl⟩ | ⟨s1, s2, _, _, _, _⟩
    · have ea : a = x := by rw [hua]; simp [stU]
      have eb : b = y := by rw [hub]; simp [stV]
      have : 1 ≤ q := by rw [← hq]; exact (Int.le_ediv_iff_mul_le hb).2 (by omega)
      omega
    · have : q * a1 ≤ q * b1 := Int.mul_le_mul_of_nonneg_left s2 hq0
      omega
  have hb1' : 1 ≤ b0 + q * b1 := by
    rcases h.st with ⟨rfl, rfl, rfl, rfl, rfl⟩ | ⟨s1, s2, s3, _, _, _⟩
    · omega
    · omega
  refine ⟨h.b_0, hr0, ?_, ?_, ?_, p2, by omega, by omega, hb1', .inr ⟨hmono.2, hmono.1, p3, c1, by omega, ?_⟩⟩
  · rw [stU_next]; exact hub
  · rw [stV_next, ← hua, ← hub]
  · rw [htop]; grind
  · intro T ra rb r0 r1 s0 s1
    have hV : stV (!odd) (a0 + q * a1) (b0 + q * b1) x y = a - q * b := by rw [stV_next, ← hua, ← hub]
    have lo := stV_low (odd := !odd) (x := x) (y := y) (by omega) hmono.1 r0 r1 s0 s1
    have lo2 := stV_low (odd := odd) (x := x) (y := y) p2 hmono.2 r0 r1 s0 s1
    rw [hV] at lo
    rw [← hub] at lo2
    have hT : 1 ≤ T := by omega
    have k1 : (b0 + q * b1) * T ≤ (a - q * b) * T := Int.mul_le_mul_of_nonneg_right c1 (by omega)
    have k2 : (b1 + (b0 + q * b1)) * T ≤ (b - (a - q * b)) * T := Int.mul_le_mul_of_nonneg_right c2 (by omega)
    have x1 : (b0 + q * b1) * (T - 1) = (b0 + q * b1) * T - (b0 + q * b1) := by rw [Int.mul_sub, Int.mul_one]
    have x2 : b1 * (T - 1) = b1 * T - b1 := by rw [Int.mul_sub, Int.mul_one]
    have x3 : (b1 + (b0 + q * b1)) * T = b1 * T + (b0 + q * b1) * T := by rw [Int.add_mul]
    have x4 : (b - (a - q * b)) * T = b * T - (a - q * b) * T := by rw [Int.sub_mul]
    rw [stU_next]
    refine ⟨by omega, by omega, ?_, ?_⟩
    · rcases h.st with ⟨rfl, rfl, rfl, rfl, rfl⟩ | ⟨_, _, _, _, _, hl⟩
      · simp [stV]
      · obtain ⟨_, l2, l3, _⟩ := hl T ra rb r0 r1 s0 s1
        omega
    · rw [stV_next]
      refine Cd.step ?_ q
      rcases h.st with ⟨rfl, rfl, rfl, rfl, rfl⟩ | ⟨_, _, _, _, _, hl⟩
      · simp only [stU, stV, Bool.false_eq_true, if_false]
        have e1 : 1 * (x * T + ra) - 0 * (y * T + rb) = x * T + ra := by omega
        have e2 : 1 * (y * T + rb) - 0 * (x * T + ra) = y * T + rb := by omega
        rw [e1, e2]; exact Cd.refl _ _
      · exact (hl T ra rb r0 r1 s0 s1).2.2.2
/-- The new factors are at most x. -/
theorem lh_room {odd : Bool} {a b a0 b0 a1 b1 x y : Int} (h : Lh odd a b a0 b0 a1 b1 x y) (hxy : y ≤ x) (hb : 0 < b) : b0 + a / b * b1 ≤ x ∧ a0 + a / b * a1 ≤ x ∧ 0 ≤ a / b * a1 ∧ 0 ≤ a / b * b1 ∧ (0 < a - a / b * b → b1 + (b0 + a / b * b1) ≤ x) ∧ 1 ≤ b0 + a / b * b1 := by
  obtain ⟨q, hq⟩ : ∃ q, a / b = q := ⟨_, rfl⟩
  rw [hq]
  have hq0 : 0 ≤ q := by rw [← hq]; exact Int.ediv_nonneg h.a_0 h.b_0
  have hr0 : 0 ≤ a - q * b := by
    have := Int.emod_nonneg a (show b ≠ 0 by omega); have e := Int.mul_ediv_add_emod a b
    rw [hq, Int.mul_comm] at e; omega
  have p0 := h.p0; have p1 := h.p1; have p2 := h.p2; have p3 := h.p3
  have hb1 : 0 ≤ q * b1 := Int.mul_nonneg hq0 (by omega)
  have ha1 : 0 ≤ q * a1 := Int.mul_nonneg hq0 h.p2
  have e : x = (b0 + q * b1) * b + b1 * (a - q * b) := by rw [h.top]; grind
  have f1 : (b0 + q * b1) * 1 ≤ (b0 + q * b1) * b := Int.mul_le_mul_of_nonneg_left (by omega) (by omega)
  have f2 : 0 ≤ b1 * (a - q * b) := Int.mul_nonneg (by omega) hr0
  refine ⟨by omega, ?_, ha1, hb1, fun hp => ?_, ?_⟩
  · rcases h.st with ⟨rfl, rfl, rfl, rfl, rfl⟩ | ⟨s1, s2, _, _, _, _⟩
    · have eb : b = y := by rw [h.ub]; simp [stV]
      omega
    · have : q * a1 ≤ q * b1 := Int.mul_le_mul_of_nonneg_left s2 hq0
      omega
  · have f3 : b1 * 1 ≤ b1 * (a - q * b) := Int.mul_le_mul_of_nonneg_left (by omega) (by omega)
    omega
  · rcases h.st with ⟨rfl, rfl, rfl, rfl, rfl⟩ | ⟨s1, s2, s3, _, _, _⟩
    · have ea : a = x := by rw [h.ua]; simp [stU]
      have eb : b = y := by rw [h.ub]; simp [stV]
      have : 1 ≤ q := by rw [← hq]; exact (Int.le_ediv_iff_mul_le hb).2 (by omega)
      omega
    · omega
/-- Some steps: their factors have room, and what they lead to. -/
theorem lh_some {odd : Bool} {a b a0 b0 a1 b1 x y : Int} (h : Lh odd a b a0 b0 a1 b1 x y) (hb0 : b0 ≠ 0) : Led odd a0 b0 a1 b1 x y ∧ a0 + 2 ≤ x ∧ b0 + 2 ≤ x ∧ a1 + 2 ≤ x ∧ b1 + 2 ≤ x := by
  rcases h.st with ⟨_, _, h0, _⟩ | ⟨s1, s2, s3, s4, s5, hl⟩
  · exact absurd h0 hb0
  · have p3 := h.p3; have p1 := h.p1
    have e := h.top
    have m1 : b1 * 2 ≤ b1 * a := Int.mul_le_mul_of_nonneg_left (by omega) (by omega)
    have m2 : b0 * 1 ≤ b0 * b := Int.mul_le_mul_of_nonneg_left (by omega) (by omega)
    exact ⟨hl, by omega, by omega, by omega, by omega⟩
theorem lh_none {odd : Bool} {a b a0 b0 a1 b1 x y : Int} (h : Lh odd a b a0 b0 a1 b1 x y) : 0 ≤ a0 ∧ 0 ≤ b0 ∧ 0 ≤ a1 ∧ 0 ≤ b1 := ⟨h.p0, h.p1, h.p2, by have := h.p3; omega⟩
end Go.Proofs.YtjjbmioicliipabDoor

/-
  What the walks of whole's statements share: light, boxes and numbers carried along. Rational numbers in lowest terms: what numerators and denominators become by sums, products, quotients. Euclid's steps by the highest bits (Lehmer's way, Collins' condition), on plain numbers. No Go text is named here. Walks of package nat's greatest common divisor: findSteps. Walks of package nat's greatest common divisor: bitsFrom, highBits. Walks of package nat's greatest common divisor: highBits. The walk of package nat's steps.apply. Walks of package nat's greatest common divisor: some, euclid. Walks of package nat's greatest common divisor: shorten. Walks of package nat's greatest common divisor: gcd, Gcd. The walk of nat's call Gcd, whatever it is handed.
-/
import Derived.Test.YtlpmfmphglgocaaGreatDoorZ4
import Derived.Test.YtlpmfmphglgocaaGreatDoorZ0
import Derived.Test.YtlpmfmphglgocaaGreatDoorZ1
import Derived.BigRegion
import Derived.Test.YtlpmfmphglgocaaGreatDoorZ2
import Derived.BigQuiet
import Derived.Test.YtlpmfmphglgocaaGreatDoorZ3
namespace Go.Proofs.YtlpmfmphglgocaaGreatDoor
open Go.RowKit

/-- A box at block b holds this whole number. -/
def Bx (w : World) (b : Nat) (s : Bool) (x : Option Addr) (n c : Nat) : Prop := b < w.heap.size ∧ w.cell? ⟨b, 0, none⟩ = some (.bool s) ∧ w.cell? ⟨b, 1, none⟩ = some (.slice x n c)
theorem Bx.below {w w' : World} {b : Nat} {s x n c} (h : Bx w b s x n c) (hb : Below w.heap.size w w') : Bx w' b s x n c := ⟨Nat.lt_of_lt_of_le h.1 hb.size, kCb hb h.2.1, kCb hb h.2.2⟩
theorem Bx.alloc {w : World} {b : Nat} {s x n c} (h : Bx w b s x n c) (o : Obj) : Bx (w.alloc o) b s x n c := ⟨by have := h.1; simp; omega, kCa h.2.1, kCa h.2.2⟩
theorem Bx.next {w w' : World} {b : Nat} {s x n c} {o : Obj} (h : Bx w b s x n c) (hb : Below (w.alloc o).heap.size (w.alloc o) w') : Bx w' b s x n c := (h.alloc o).below hb
theorem bx_new {w w' : World} {s x n c} {t : TypeId} (hb : Below (w.alloc (.cells #[.bool s, .slice x n c] t)).heap.size (w.alloc (.cells #[.bool s, .slice x n c] t)) w') : Bx w' w.heap.size s x n c :=
  ⟨by have := hb.size; simp at this; omega, kCb hb kN0, kCb hb kN1⟩
/-- A whole number in form that can be read. -/
structure Wn (w : World) (s : Bool) (x : Option Addr) (n c : Nat) (f : Nat → Int) (v : Int) : Prop where
  rd : Rd .u64 w x n f
  lm : Lm f n
  wf : wfB s f n = true
  cap : n ≤ c ∧ c ≤ 9223372036854775807
  nil : x = none → n = 0 ∧ c = 0
  val : wv s f n = v
theorem Wn.below {w w' : World} {s x n c f v} (h : Wn w s x n c f v) (hb : Below w.heap.size w w') : Wn w' s x n c f v := ⟨h.rd.below hb (Nat.le_refl _), h.lm, h.wf, h.cap, h.nil, h.val⟩
theorem Wn.alloc {w : World} {s x n c f v} (h : Wn w s x n c f v) (o : Obj) : Wn (w.alloc o) s x n c f v := ⟨h.rd.alloc o, h.lm, h.wf, h.cap, h.nil, h.val⟩
theorem Wn.next {w w' : World} {s x n c f v} {o : Obj} (h : Wn w s x n c f v) (hb : Below (w.alloc o).heap.size (w.alloc o) w') : Wn w' s x n c f v := (h.alloc o).below hb
theorem WRes.wn {C w w' s x n c f v} (h : WRes C w w' s x n c f) (hv : wv s f n = v) : Wn w' s x n c f v := ⟨h.res.rd, h.res.lm, h.wfB, h.res.ncap, h.res.nil', hv⟩
theorem WAns.ok {P : Prop} {v : Int} {r k f er} (h : WAns P v r k f er) (hp : P) : er = 0 ∧ wv r f k = v := by
  rcases h with ⟨_, h1, h2⟩ | ⟨h1, _⟩
  · exact ⟨h1, h2⟩
  · exact absurd hp h1
/-- Two numbers' calls, both in form. -/
theorem add_n {w : World} {s t x y n m c d f g u v} (ha : Wn w s x n c f u) (hb : Wn w t y m d g v) (hn : n ≤ 1048576) (hm : m ≤ 1048576) :
    Calls Tryz.prog 88 #[.agg #[.bool s, .slice x n c], .agg #[.bool t, .slice y m d]] w fun e w' => ∃ r z k e' h, e = .returned (.tuple #[.agg #[.bool r, .slice z k e'], .int .i64 0]) ∧ Below w.heap.size w w' ∧ k ≤ max n m + 1 ∧ Wn w' r z k e' h (u + v) := by
  refine (wAdd_c s t x y n m c d f g w (by omega) (by omega) ha.rd hb.rd ha.lm hb.lm).mono ?_
  rintro e w' ⟨r, z, k, e', h, er, rfl, hres, hans⟩
  obtain ⟨rfl, hv⟩ := hans.ok ⟨ha.wf, hb.wf⟩
  exact ⟨r, z, k, e', h, rfl, hres.res.bel, hres.res.le, hres.wn (by rw [hv, ha.val, hb.val])⟩
theorem mul_n {w : World} {s t x y n m c d f g u v} (ha : Wn w s x n c f u) (hb : Wn w t y m d g v) (hn : n ≤ 1048576) (hm : m ≤ 1048576) :
    Calls Tryz.prog 87 #[.agg #[.bool s, .slice x n c], .agg #[.bool t, .slice y m d]] w fun e w' => ∃ r z k e' h, e = .returned (.tuple #[.agg #[.bool r, .slice z k e'], .int .i64 0]) ∧ Below w.heap.size w w' ∧ k ≤ n + m ∧ Wn w' r z k e' h (u * v) := by
  refine (wMul_c s t x y n m c d f g w (by omega) (by omega) ha.cap.1 hb.cap.1 ha.cap.2 hb.cap.2 ha.rd hb.rd ha.lm hb.lm).mono ?_
  rintro e w' ⟨r, z, k, e', h, er, rfl, hres, hans⟩
  obtain ⟨rfl, hv⟩ := hans.ok ⟨ha.wf, hb.wf⟩
  exact ⟨r, z, k, e', h, rfl, hres.res.bel, hres.res.le, hres.wn (by rw [hv, ha.val, hb.val])⟩
theorem same_n {w : World} {s t x y n m c d f g u} (ha : Wn w s x n c f u) (hb : Wn w t y m d g u) (hn : n ≤ 1048576) (hm : m ≤ 1048576) :
    Calls Tryz.prog 24 #[.agg #[.bool s, .slice x n c], .agg #[.bool t, .slice y m d]] w fun e w' => e = .returned (.bool true) ∧ Below w.heap.size w w' :=
  wSame_true s t x y n m c d f g w (by omega) (by omega) ha.rd hb.rd ha.lm hb.lm ha.wf hb.wf (ha.val.trans hb.val.symm)
end Go.Proofs.YtlpmfmphglgocaaGreatDoor
namespace Go.Proofs.YtlpmfmphglgocaaGreatDoor
open Go.RowKit

/-- A whole number by its sign and its magnitude. -/
def sg (s : Bool) (A : Nat) : Int := if s then -(A : Int) else A
theorem sg_tdiv (s : Bool) (A G : Nat) (hG : 0 < G) : (sg s (A * G)).tdiv G = sg s A := by
  have h : (G : Int) ≠ 0 := by omega
  cases s
  · show ((A * G : Nat) : Int).tdiv G = A
    rw [Int.natCast_mul]; exact Int.mul_tdiv_cancel _ h
  · show (-((A * G : Nat) : Int)).tdiv G = -A
    rw [Int.neg_tdiv, Int.natCast_mul, Int.mul_tdiv_cancel _ h]
theorem sg_natAbs (s : Bool) (A : Nat) : (sg s A).natAbs = A := by cases s <;> simp [sg]
theorem sg_mul (s t : Bool) (A B : Nat) : sg s A * sg t B = sg (s != t) (A * B) := by
  cases s <;> cases t <;> simp [sg, Int.neg_mul, Int.mul_neg]
theorem radd {a b : Rat} {G RA RB L BL : Nat} {S N : Int} (hG : G = a.den.gcd b.den) (hA : RA * G = a.den) (hB : RB * G = b.den) (hS : S = a.num * RB + b.num * RA) (hL : L = S.natAbs.gcd G) (hBL : BL * L = b.den) (hN : N * L = S) :
    (a + b).num = N ∧ (a + b).den = RA * BL := by
  have hG0 : 0 < G := by rw [hG]; exact Nat.gcd_pos_of_pos_left _ a.den_pos
  have hL0 : 0 < L := by rw [hL]; exact Nat.gcd_pos_of_pos_right _ hG0
  have eA : a.den / G = RA := by rw [← hA]; exact Nat.mul_div_cancel _ hG0
  have eB : b.den / G = RB := by rw [← hB]; exact Nat.mul_div_cancel _ hG0
  have e1 : (a + b) = Rat.add a b := rfl
  rw [e1]
  unfold Rat.add
  simp only [← hG, eA, eB]
  split
  · next h1 =>
    have hL1 : L = 1 := by rw [hL, h1]; simp
    have : RA = a.den := by rw [← hA, h1]; simp
    have h2 : RB = b.den := by rw [← hB, h1]; simp
    have h3 : BL = b.den := by rw [← hBL, hL1]; simp
    have h4 : N = S := by rw [← hN, hL1]; simp
    subst this; subst h2; subst h3
    exact ⟨by rw [h4, hS], rfl⟩
  · rw [Rat.maybeNormalize_eq]
    have e2 : (a.num * (RB : Int) + b.num * (RA : Int)).natAbs.gcd G = L := by rw [hL, hS]
    refine ⟨?_, ?_⟩
    · simp only [e2]
      rw [Int.divExact_eq_tdiv]
      rw [← hS, ← hN]
      exact Int.mul_tdiv_cancel _ (by omega)
    · simp only [e2]
      rw [← hBL, ← Nat.mul_assoc]
      exact Nat.mul_div_cancel _ hL0
theorem rmul {a b : Rat} {s t : Bool} {G H NA NB DA DB : Nat} (ha : a.num = sg s (NA * G)) (hb : b.num = sg t (NB * H)) (hG : G = a.num.natAbs.gcd b.den) (hH : H = b.num.natAbs.gcd a.den) (h3 : DA * H = a.den) (h4 : DB * G = b.den) :
    (a * b).num = sg (s != t) (NA * NB) ∧ (a * b).den = DA * DB := by
  have hG0 : 0 < G := by rw [hG]; exact Nat.gcd_pos_of_pos_right _ b.den_pos
  have hH0 : 0 < H := by rw [hH]; exact Nat.gcd_pos_of_pos_right _ a.den_pos
  have e1 : (a * b) = Rat.mul a b := rfl
  rw [e1]
  unfold Rat.mul
  simp only [← hG, ← hH, Int.divExact_eq_tdiv, Nat.divExact_eq_div]
  refine ⟨?_, ?_⟩
  · rw [ha, hb, sg_tdiv _ _ _ hG0, sg_tdiv _ _ _ hH0, sg_mul]
  · rw [← h3, ← h4, Nat.mul_div_cancel _ hG0, Nat.mul_div_cancel _ hH0]
theorem rinv {b : Rat} {t : Bool} {B : Nat} (hb : b.num = sg t B) (h0 : 0 < B) : (b⁻¹).num = sg t b.den ∧ (b⁻¹).den = B := by
  have e1 : b⁻¹ = Rat.inv b := rfl
  rw [e1]
  unfold Rat.inv
  cases t
  · have h1 : b.num = B := hb
    rw [dif_neg (by omega), dif_pos (by omega)]
    exact ⟨rfl, by show b.num.natAbs = B; omega⟩
  · have h1 : b.num = -(B : Int) := hb
    rw [dif_pos (by omega)]
    exact ⟨rfl, by show b.num.natAbs = B; omega⟩
theorem rmake {s t : Bool} {NA NB G : Nat} (hB : 0 < NB * G) (hG : G = (NA * G).gcd (NB * G)) :
    (((sg s (NA * G) : Int) : Rat) / (sg t (NB * G) : Int)).num = sg (s != t) NA ∧ (((sg s (NA * G) : Int) : Rat) / (sg t (NB * G) : Int)).den = NB := by
  have hNB : 0 < NB := Nat.pos_of_mul_pos_right hB
  have hG0 : 0 < G := Nat.pos_of_mul_pos_left hB
  have hc : (sg (s != t) NA).natAbs.Coprime NB := by
    have h1 : (sg (s != t) NA).natAbs = NA := by cases s <;> cases t <;> simp [sg]
    rw [h1]
    have : NA.gcd NB * G = G := by rw [← Nat.gcd_mul_right]; exact hG.symm
    exact Nat.eq_of_mul_eq_mul_right hG0 (by rw [this, Nat.one_mul])
  have h2 : ((sg s (NA * G) : Int) : Rat) / (sg t (NB * G) : Int) = ⟨sg (s != t) NA, NB, by omega, hc⟩ := by
    rw [Rat.mk_eq_divInt, ← Rat.divInt_eq_div, Rat.divInt_eq_divInt_iff]
    · cases s <;> cases t <;> simp [sg] <;> grind
    · cases t <;> simp [sg] <;> omega
    · omega
  rw [h2]; exact ⟨rfl, rfl⟩
theorem rfloor (a : Rat) : a.floor = a.num / a.den := by
  unfold Rat.floor
  split
  · next h => rw [h]; simp
  · rfl
end Go.Proofs.YtlpmfmphglgocaaGreatDoor
namespace Go.Proofs.YtlpmfmphglgocaaGreatDoor
open Go.RowKit

/-- The two numbers that steps lead to. -/
def stU (odd : Bool) (a0 b0 A B : Int) : Int := if odd then b0 * B - a0 * A else a0 * A - b0 * B
def stV (odd : Bool) (a1 b1 A B : Int) : Int := if odd then a1 * A - b1 * B else b1 * B - a1 * A
/-- The same common divisors. -/
def Cd (u v A B : Int) : Prop := ∀ d : Int, (d ∣ u ∧ d ∣ v) ↔ (d ∣ A ∧ d ∣ B)
theorem Cd.refl (A B : Int) : Cd A B A B := fun _ => Iff.rfl
theorem Cd.step {u v A B : Int} (h : Cd u v A B) (q : Int) : Cd v (u - q * v) A B := fun d => by
  rw [← h d]
  constructor
  · rintro ⟨h1, h2⟩
    refine ⟨?_, h1⟩
    have := Int.dvd_add h2 (Int.dvd_mul_of_dvd_right (b := q) h1)
    rwa [Int.sub_add_cancel] at this
  · rintro ⟨h1, h2⟩
    exact ⟨h2, Int.dvd_sub h1 (Int.dvd_mul_of_dvd_right (b := q) h2)⟩
theorem Cd.trans {u v A B C D : Int} (h : Cd u v A B) (k : Cd A B C D) : Cd u v C D := fun d => (h d).trans (k d)
theorem Cd.swap {u v A B : Int} (h : Cd u v A B) : Cd v u A B := fun d => by rw [← h d]; exact And.comm

/-- What some steps lead to, for all numbers that begin with the bits x and y. -/
def Led (odd : Bool) (a0 b0 a1 b1 x y : Int) : Prop := ∀ T ra rb : Int, 0 ≤ ra → ra < T → 0 ≤ rb → rb < T →
  0 ≤ stV odd a1 b1 (x * T + ra) (y * T + rb) ∧ stV odd a1 b1 (x * T + ra) (y * T + rb) < stU odd a0 b0 (x * T + ra) (y * T + rb) ∧ stU odd a0 b0 (x * T + ra) (y * T + rb) ≤ y * T + rb ∧ Cd (stU odd a0 b0 (x * T + ra) (y * T + rb)) (stV odd a1 b1 (x * T + ra) (y * T + rb)) (x * T + ra) (y * T + rb)

/-- The state of the search. -/
structure Lh (odd : Bool) (a b a0 b0 a1 b1 x y : Int) : Prop where
  a_0 : 0 ≤ a
  b_0 : 0 ≤ b
  ua : a = stU odd a0 b0 x y
  ub : b = stV odd a1 b1 x y
  top : x = b1 * a + b0 * b
  p0 : 0 ≤ a0
  p1 : 0 ≤ b0
  p2 : 0 ≤ a1
  p3 : 1 ≤ b1
  st : (odd = false ∧ a0 = 1 ∧ b0 = 0 ∧ a1 = 0 ∧ b1 = 1) ∨ (a0 ≤ b0 ∧ a1 ≤ b1 ∧ 1 ≤ b0 ∧ b1 ≤ b ∧ b < a ∧ Led odd a0 b0 a1 b1 x y)

theorem lh_start {x y : Int} (hx : 0 ≤ x) (hy : 0 ≤ y) : Lh false x y 1 0 0 1 x y :=
  ⟨hx, hy, by simp [stU], by simp [stV], by omega, by omega, by omega, by omega, by omega, .inl ⟨rfl, rfl, rfl, rfl, rfl⟩⟩

theorem stU_next {odd : Bool} {a1 b1 A B : Int} : stU (!odd) a1 b1 A B = stV odd a1 b1 A B := by cases odd <;> simp [stU, stV]
theorem stV_next {odd : Bool} {a0 b0 a1 b1 q A B : Int} : stV (!odd) (a0 + q * a1) (b0 + q * b1) A B = stU odd a0 b0 A B - q * stV odd a1 b1 A B := by
  cases odd <;> simp only [stU, stV, Bool.not_false, Bool.not_true, if_true, if_false, Bool.false_eq_true] <;> grind

/-- A number is near its highest bits. -/
theorem stV_low {odd : Bool} {a1 b1 x y T ra rb : Int} (h0 : 0 ≤ a1) (h1 : a1 ≤ b1) (r0 : 0 ≤ ra) (r1 : ra < T) (s0 : 0 ≤ rb) (s1 : rb < T) :
    stV odd a1 b1 x y * T - b1 * (T - 1) ≤ stV odd a1 b1 (x * T + ra) (y * T + rb) ∧ stV odd a1 b1 (x * T + ra) (y * T + rb) ≤ stV odd a1 b1 x y * T + b1 * (T - 1) := by
  have m1 : 0 ≤ a1 * ra := Int.mul_nonneg h0 r0
  have m2 : 0 ≤ b1 * rb := Int.mul_nonneg (by omega) s0
  have m3 : a1 * ra ≤ b1 * ra := Int.mul_le_mul_of_nonneg_right h1 r0
  have m4 : b1 * ra ≤ b1 * (T - 1) := Int.mul_le_mul_of_nonneg_left (by omega) (by omega)
  have m5 : b1 * rb ≤ b1 * (T - 1) := Int.mul_le_mul_of_nonneg_left (by omega) (by omega)
  cases odd
  · have e : stV false a1 b1 (x * T + ra) (y * T + rb) = stV false a1 b1 x y * T + b1 * rb - a1 * ra := by simp only [stV, Bool.false_eq_true, if_false]; grind
    rw [e]; omega
  · have e : stV true a1 b1 (x * T + ra) (y * T + rb) = stV true a1 b1 x y * T + a1 * ra - b1 * rb := by simp only [stV, if_true]; grind
    rw [e]; omega

/-- One step, where Collins' condition holds. -/
theorem lh_step {odd : Bool} {a b a0 b0 a1 b1 x y : Int} (h : Lh odd a b a0 b0 a1 b1 x y) (hxy : y ≤ x) (hb : 0 < b) (c1 : b0 + a / b * b1 ≤ a - a / b * b) (c2 : b1 + (b0 + a / b * b1) ≤ b - (a - a / b * b)) :
    Lh (!odd) b (a - a / b * b) a1 b1 (a0 + a / b * a1) (b0 + a / b * b1) x y := by
  obtain ⟨q, hq⟩ : ∃ q, a / b = q := ⟨_, rfl⟩
  rw [hq] at c1 c2 ⊢
  have hq0 : 0 ≤ q := by rw [← hq]; exact Int.ediv_nonneg h.a_0 h.b_0
  have hr0 : 0 ≤ a - q * b := by
    have := Int.emod_nonneg a (show b ≠ 0 by omega); have e := Int.mul_ediv_add_emod a b
    rw [hq, Int.mul_comm] at e; omega
  have hb1 : 0 ≤ q * b1 := Int.mul_nonneg hq0 (by have := h.p3; omega)
  have ha1 : 0 ≤ q * a1 := Int.mul_nonneg hq0 h.p2
  have p0 := h.p0; have p1 := h.p1; have p2 := h.p2; have p3 := h.p3
  have hua := h.ua; have hub := h.ub; have htop := h.top
  -- the quotient is not 0 at the first step
  have hmono : a0 + q * a1 ≤ b0 + q * b1 ∧ a1 ≤ b1 := by
    rcases h.st with ⟨rfl, rfl, rfl, rfl, rfl⟩ | ⟨s1, s2, _, _, _, _⟩
    · have ea : a = x := by rw [hua]; simp [stU]
      have eb : b = y := by rw [hub]; simp [stV]
      have : 1 ≤ q := by rw [← hq]; exact (Int.le_ediv_iff_mul_le hb).2 (by omega)
      omega
    · have : q * a1 ≤ q * b1 := Int.mul_le_mul_of_nonneg_left s2 hq0
      omega
  have hb1' : 1 ≤ b0 + q * b1 := by
    rcases h.st with ⟨rfl, rfl, rfl, rfl, rfl⟩ | ⟨s1, s2, s3, _, _, _⟩
    · omega
    · omega
  refine ⟨h.b_0, hr0, ?_, ?_, ?_, p2, by omega, by omega, hb1', .inr ⟨hmono.2, hmono.1, p3, c1, by omega, ?_⟩⟩
  · rw [stU_next]; exact hub
  · rw [stV_next, ← hua, ← hub]
  · rw [htop]; grind
  · intro T ra rb r0 r1 s0 s1
    have hV : stV (!odd) (a0 + q * a1) (b0 + q * b1) x y = a - q * b := by rw [stV_next, ← hua, ← hub]
    have lo := stV_low (odd := !odd) (x := x) (y := y) (by omega) hmono.1 r0 r1 s0 s1
    have lo2 := stV_low (odd := odd) (x := x) (y := y) p2 hmono.2 r0 r1 s0 s1
    rw [hV] at lo
    rw [← hub] at lo2
    have hT : 1 ≤ T := by omega
    have k1 : (b0 + q * b1) * T ≤ (a - q * b) * T := Int.mul_le_mul_of_nonneg_right c1 (by omega)
    have k2 : (b1 + (b0 + q * b1)) * T ≤ (b - (a - q * b)) * T := Int.mul_le_mul_of_nonneg_right c2 (by omega)
    have x1 : (b0 + q * b1) * (T - 1) = (b0 + q * b1) * T - (b0 + q * b1) := by rw [Int.mul_sub, Int.mul_one]
    have x2 : b1 * (T - 1) = b1 * T - b1 := by rw [Int.mul_sub, Int.mul_one]
    have x3 : (b1 + (b0 + q * b1)) * T = b1 * T + (b0 + q * b1) * T := by rw [Int.add_mul]
    have x4 : (b - (a - q * b)) * T = b * T - (a - q * b) * T := by rw [Int.sub_mul]
    rw [stU_next]
    refine ⟨by omega, by omega, ?_, ?_⟩
    · rcases h.st with ⟨rfl, rfl, rfl, rfl, rfl⟩ | ⟨_, _, _, _, _, hl⟩
      · simp [stV]
      · obtain ⟨_, l2, l3, _⟩ := hl T ra rb r0 r1 s0 s1
        omega
    · rw [stV_next]
      refine Cd.step ?_ q
      rcases h.st with ⟨rfl, rfl, rfl, rfl, rfl⟩ | ⟨_, _, _, _, _, hl⟩
      · simp only [stU, stV, Bool.false_eq_true, if_false]
        have e1 : 1 * (x * T + ra) - 0 * (y * T + rb) = x * T + ra := by omega
        have e2 : 1 * (y * T + rb) - 0 * (x * T + ra) = y * T + rb := by omega
        rw [e1, e2]; exact Cd.refl _ _
      · exact (hl T ra rb r0 r1 s0 s1).2.2.2
/-- The new factors are at most x. -/
theorem lh_room {odd : Bool} {a b a0 b0 a1 b1 x y : Int} (h : Lh odd a b a0 b0 a1 b1 x y) (hxy : y ≤ x) (hb : 0 < b) : b0 + a / b * b1 ≤ x ∧ a0 + a / b * a1 ≤ x ∧ 0 ≤ a / b * a1 ∧ 0 ≤ a / b * b1 ∧ (0 < a - a / b * b → b1 + (b0 + a / b * b1) ≤ x) ∧ 1 ≤ b0 + a / b * b1 := by
  obtain ⟨q, hq⟩ : ∃ q, a / b = q := ⟨_, rfl⟩
  rw [hq]
  have hq0 : 0 ≤ q := by rw [← hq]; exact Int.ediv_nonneg h.a_0 h.b_0
  have hr0 : 0 ≤ a - q * b := by
    have := Int.emod_nonneg a (show b ≠ 0 by omega); have e := Int.mul_ediv_add_emod a b
    rw [hq, Int.mul_comm] at e; omega
  have p0 := h.p0; have p1 := h.p1; have p2 := h.p2; have p3 := h.p3
  have hb1 : 0 ≤ q * b1 := Int.mul_nonneg hq0 (by omega)
  have ha1 : 0 ≤ q * a1 := Int.mul_nonneg hq0 h.p2
  have e : x = (b0 + q * b1) * b + b1 * (a - q * b) := by rw [h.top]; grind
  have f1 : (b0 + q * b1) * 1 ≤ (b0 + q * b1) * b := Int.mul_le_mul_of_nonneg_left (by omega) (by omega)
  have f2 : 0 ≤ b1 * (a - q * b) := Int.mul_nonneg (by omega) hr0
  refine ⟨by omega, ?_, ha1, hb1, fun hp => ?_, ?_⟩
  · rcases h.st with ⟨rfl, rfl, rfl, rfl, rfl⟩ | ⟨s1, s2, _, _, _, _⟩
    · have eb : b = y := by rw [h.ub]; simp [stV]
      omega
    · have : q * a1 ≤ q * b1 := Int.mul_le_mul_of_nonneg_left s2 hq0
      omega
  · have f3 : b1 * 1 ≤ b1 * (a - q * b) := Int.mul_le_mul_of_nonneg_left (by omega) (by omega)
    omega
  · rcases h.st with ⟨rfl, rfl, rfl, rfl, rfl⟩ | ⟨s1, s2, s3, _, _, _⟩
    · have ea : a = x := by rw [h.ua]; simp [stU]
      have eb : b = y := by rw [h.ub]; simp [stV]
      have : 1 ≤ q := by rw [← hq]; exact (Int.le_ediv_iff_mul_le hb).2 (by omega)
      omega
    · omega
/-- Some steps: their factors have room, and what they lead to. -/
theorem lh_some {odd : Bool} {a b a0 b0 a1 b1 x y : Int} (h : Lh odd a b a0 b0 a1 b1 x y) (hb0 : b0 ≠ 0) : Led odd a0 b0 a1 b1 x y ∧ a0 + 2 ≤ x ∧ b0 + 2 ≤ x ∧ a1 + 2 ≤ x ∧ b1 + 2 ≤ x := by
  rcases h.st with ⟨_, _, h0, _⟩ | ⟨s1, s2, s3, s4, s5, hl⟩
  · exact absurd h0 hb0
  · have p3 := h.p3; have p1 := h.p1
    have e := h.top
    have m1 : b1 * 2 ≤ b1 * a := Int.mul_le_mul_of_nonneg_left (by omega) (by omega)
    have m2 : b0 * 1 ≤ b0 * b := Int.mul_le_mul_of_nonneg_left (by omega) (by omega)
    exact ⟨hl, by omega, by omega, by omega, by omega⟩
theorem lh_none {odd : Bool} {a b a0 b0 a1 b1 x y : Int} (h : Lh odd a b a0 b0 a1 b1 x y) : 0 ≤ a0 ∧ 0 ≤ b0 ∧ 0 ≤ a1 ∧ 0 ≤ b1 := ⟨h.p0, h.p1, h.p2, by have := h.p3; omega⟩
end Go.Proofs.YtlpmfmphglgocaaGreatDoor
namespace Go.Proofs.YtlpmfmphglgocaaGreatDoor
open Go.RowKit

/-- Block g holds the five fields of steps. -/
def SB (w : World) (g : Nat) (a0 b0 a1 b1 : Int) (odd : Bool) : Prop := w.heap[g]? = some (.cells #[.int .u64 a0, .int .u64 b0, .int .u64 a1, .int .u64 b1, .bool odd] 177 (0, 0))
theorem SB.cells {w g a0 b0 a1 b1 odd} (h : SB w g a0 b0 a1 b1 odd) : w.cell? ⟨g, 0, none⟩ = some (.int .u64 a0) ∧ w.cell? ⟨g, 1, none⟩ = some (.int .u64 b0) ∧ w.cell? ⟨g, 2, none⟩ = some (.int .u64 a1) ∧ w.cell? ⟨g, 3, none⟩ = some (.int .u64 b1) ∧ w.cell? ⟨g, 4, none⟩ = some (.bool odd) := by
  unfold SB at h
  simp [World.cell?, h]
theorem SB.frozen {w g a0 b0 a1 b1 odd} (h : SB w g a0 b0 a1 b1 odd) (j : Nat) : w.frozen? ⟨g, j, none⟩ = false := by
  unfold SB at h
  simp [World.frozen?, h]
theorem SB.lt {w g a0 b0 a1 b1 odd} (h : SB w g a0 b0 a1 b1 odd) : g < w.heap.size := (Array.getElem?_eq_some_iff.1 h).1
theorem SB.below {w w' g a0 b0 a1 b1 odd} (h : SB w g a0 b0 a1 b1 odd) (hb : Below w.heap.size w w') : SB w' g a0 b0 a1 b1 odd := (hb.block g h.lt).trans h

theorem SB.set5 {w g a0 b0 a1 b1 odd} (h : SB w g a0 b0 a1 b1 odd) (c0 d0 c1 d1 : Int) (o : Bool) : SB (((((w.setCell ⟨g, 0, none⟩ (.int .u64 c0)).setCell ⟨g, 1, none⟩ (.int .u64 d0)).setCell ⟨g, 2, none⟩ (.int .u64 c1)).setCell ⟨g, 3, none⟩ (.int .u64 d1)).setCell ⟨g, 4, none⟩ (.bool o)) g c0 d0 c1 d1 o := by
  unfold SB at h ⊢
  simp [World.setCell, Array.getElem?_modify, h]
theorem only_set5 (w : World) (g : Nat) (u0 u1 u2 u3 u4 : Value) : Only g w (((((w.setCell ⟨g, 0, none⟩ u0).setCell ⟨g, 1, none⟩ u1).setCell ⟨g, 2, none⟩ u2).setCell ⟨g, 3, none⟩ u3).setCell ⟨g, 4, none⟩ u4) :=
  (((((Only.refl _ _).setCell _ _ _).setCell _ _ _).setCell _ _ _).setCell _ _ _).setCell _ _ _
/-- What findSteps answers. -/
def FsAns (w w' : World) (e : Ending) (x y : Int) : Prop := Below w.heap.size w w' ∧ ∃ a0 b0 a1 b1 odd a b, e = .returned (.agg #[.int .u64 a0, .int .u64 b0, .int .u64 a1, .int .u64 b1, .bool odd]) ∧ Lh odd a b a0 b0 a1 b1 x y ∧ b0 ≤ x ∧ a0 ≤ x ∧ a1 ≤ x ∧ b1 ≤ x

set_option maxRecDepth 100000 in
set_option maxHeartbeats 4000000 in
theorem findSteps_c (x y : Int) (w : World) (y0 : 0 ≤ y) (hyx : y ≤ x) (x0 : 1 ≤ x) (x1 : x < 18446744073709551616) :
    Calls Tryz.prog 179 #[.int .u64 x, .int .u64 y] w fun e w' => FsAns w w' e x y := by
  go_enter Tryz.func179, Tryz.ntmps179
  go_wp2
  go_loopw [0, 1] (fun c d wr => ∃ (a b a0 b0 a1 b1 : Int) (odd : Bool), c = .int .u64 a ∧ d = .int .u64 b ∧ 0 ≤ a ∧ a ≤ x ∧ 0 ≤ b ∧ b ≤ x ∧ Below w.heap.size w wr ∧ Hid (SB wr w.heap.size 0 0 0 0 false) ∧ Hid (SB wr (w.heap.size + 1) a0 b0 a1 b1 odd) ∧ Hid (Lh odd a b a0 b0 a1 b1 x y) ∧ Hid (b0 ≤ x ∧ a0 ≤ x ∧ a1 ≤ x ∧ b1 ≤ x)) (fun _ d _ => (intOf d).toNat)
  case atStart =>
    refine ⟨x, y, 1, 0, 0, 1, false, rfl, rfl, by omega, by omega, by omega, by omega, ((Below.refl _ _).alloc (Nat.le_refl _) _).alloc (by simp) _, ?_, ?_, lh_start (by omega) y0, ?_⟩
    · exact Below.heap_alloc _ _ _ (by simp) |>.trans (heap_alloc_new w _)
    · show _ = _
      have := heap_alloc_new (w.alloc (.cells #[.int .u64 0, .int .u64 0, .int .u64 0, .int .u64 0, .bool false] 177)) (.cells #[.int .u64 1, .int .u64 0, .int .u64 0, .int .u64 1, .bool false] 177)
      simpa using this
    · show _ ∧ _ ∧ _ ∧ _
      omega
  case round =>
    obtain ⟨a, b, a0, b0, a1, b1, odd, rfl, rfl, ha0, hax, hb0, hbx, hbel, HG, HS, HL, HX⟩ := hrel
    obtain ⟨s0, s1, s2, s3, s4⟩ := HS.out.cells
    obtain ⟨r0, r1, r2, r3, r4⟩ := HG.out.cells
    have fz := HS.out.frozen
    have fr := HG.out.frozen
    have alS : ∀ o, SB (wr.alloc o) (w.heap.size + 1) a0 b0 a1 b1 odd := fun o => HS.out.below ((Below.refl _ _).alloc (Nat.le_refl _) o)
    have alG : ∀ o, SB (wr.alloc o) w.heap.size 0 0 0 0 false := fun o => HG.out.below ((Below.refl _ _).alloc (Nat.le_refl _) o)
    have sa0 := fun o => (alS o).cells.1
    have sa1 := fun o => (alS o).cells.2.1
    have sa2 := fun o => (alS o).cells.2.2.1
    have sa3 := fun o => (alS o).cells.2.2.2.1
    have sa4 := fun o => (alS o).cells.2.2.2.2
    have ga0 := fun o => (alG o).cells.1
    have ga1 := fun o => (alG o).cells.2.1
    have ga2 := fun o => (alG o).cells.2.2.1
    have ga3 := fun o => (alG o).cells.2.2.2.1
    have ga4 := fun o => (alG o).cells.2.2.2.2
    have fza := fun o => (alS o).frozen
    have fra := fun o => (alG o).frozen
    have ltS := HS.out.lt
    clear alS alG
    by_cases hbz : b = 0
    · subst hbz
      go_wp2
      obtain ⟨t0, t1, t2, t3, t4⟩ := (HG.out.set5 a0 b0 a1 b1 odd).cells
      refine bodyPost_ret (v := .agg #[.int .u64 a0, .int .u64 b0, .int .u64 a1, .int .u64 b1, .bool odd]) (by simp [results, Tryz.results179, go_sem, t0, t1, t2, t3, t4]) rfl ⟨?_, a0, b0, a1, b1, odd, _, _, rfl, HL.out, HX.out⟩
      exact below_only hbel (only_set5 _ _ _ _ _ _ _) (Nat.le_refl _) hbel.size
    · have hbp : 0 < b := by omega
      have hbb : (b != 0) = true := by simp [hbz]
      obtain ⟨m1, m2, m3, m4, m5, m6⟩ := lh_room HL.out hyx hbp
      have cstep := lh_step HL.out hyx hbp
      obtain ⟨q, hq⟩ : ∃ q, a / b = q := ⟨_, rfl⟩
      have hq0 : 0 ≤ q := by rw [← hq]; exact Int.ediv_nonneg ha0 hb0
      have hpr : 0 ≤ a - q * b ∧ a - q * b < b ∧ 0 ≤ q * b := by
        have e1 := Int.emod_nonneg a hbz; have e2 := Int.emod_lt_of_pos a hbp; have e := Int.mul_ediv_add_emod a b
        rw [hq, Int.mul_comm] at e
        exact ⟨by omega, by omega, Int.mul_nonneg hq0 hb0⟩
      rw [hq] at m1 m2 m3 m4 m5 m6 cstep
      obtain ⟨p, hp⟩ : ∃ p, q * b = p := ⟨_, rfl⟩
      obtain ⟨qa, hqa⟩ : ∃ p, q * a1 = p := ⟨_, rfl⟩
      obtain ⟨qb, hqb⟩ : ∃ p, q * b1 = p := ⟨_, rfl⟩
      rw [hp] at hpr m5 cstep
      rw [hqa] at m2 m3 cstep
      rw [hqb] at m1 m4 m5 m6 cstep
      obtain ⟨p1, p2, p3⟩ := hpr
      obtain ⟨l0, l1, l2, l3⟩ := (⟨HL.out.p0, HL.out.p1, HL.out.p2, HL.out.p3⟩ : 0 ≤ a0 ∧ 0 ≤ b0 ∧ 0 ≤ a1 ∧ 1 ≤ b1)
      obtain ⟨z1, z2, z3, z4⟩ := HX.out
      have CS := hid cstep
      have M5 := hid m5
      clear cstep m5
      by_cases c1 : a - p < b0 + qb
      · have c1b : decide (a - p < b0 + qb) = true := by simp [c1]
        go_wp2
        obtain ⟨t0, t1, t2, t3, t4⟩ := ((HG.out.below ((Below.refl _ _).alloc (Nat.le_refl _) (.cells #[.int .u64 a1, .int .u64 b1, .int .u64 (a0 + qa), .int .u64 (b0 + qb), .bool !odd] 177))).set5 a0 b0 a1 b1 odd).cells
        refine bodyPost_ret (v := .agg #[.int .u64 a0, .int .u64 b0, .int .u64 a1, .int .u64 b1, .bool odd]) (by simp [results, Tryz.results179, go_sem, t0, t1, t2, t3, t4]) rfl ⟨?_, a0, b0, a1, b1, odd, _, _, rfl, HL.out, HX.out⟩
        exact below_only (hbel.alloc hbel.size _) (only_set5 _ _ _ _ _ _ _) (Nat.le_refl _) (by have := hbel.size; simp; omega)
      · have c1b : decide (a - p < b0 + qb) = false := by simp; omega
        have hm5 := M5.out (by omega)
        by_cases c2 : b - (a - p) < b1 + (b0 + qb)
        · have c2b : decide (b - (a - p) < b1 + (b0 + qb)) = true := by simp [c2]
          go_wp2
          obtain ⟨t0, t1, t2, t3, t4⟩ := ((HG.out.below ((Below.refl _ _).alloc (Nat.le_refl _) (.cells #[.int .u64 a1, .int .u64 b1, .int .u64 (a0 + qa), .int .u64 (b0 + qb), .bool !odd] 177))).set5 a0 b0 a1 b1 odd).cells
          refine bodyPost_ret (v := .agg #[.int .u64 a0, .int .u64 b0, .int .u64 a1, .int .u64 b1, .bool odd]) (by simp [results, Tryz.results179, go_sem, t0, t1, t2, t3, t4]) rfl ⟨?_, a0, b0, a1, b1, odd, _, _, rfl, HL.out, HX.out⟩
          exact below_only (hbel.alloc hbel.size _) (only_set5 _ _ _ _ _ _ _) (Nat.le_refl _) (by have := hbel.size; simp; omega)
        · have c2b : decide (b - (a - p) < b1 + (b0 + qb)) = false := by simp; omega
          have NX := hid (CS.out (by omega) (by omega))
          go_wp2
          go_region
          all_goals
            go_wp2
            go_roundw
            case rel =>
              have o1 : Only (w.heap.size + 1) wr _ := only_set5 wr (w.heap.size + 1) (.int .u64 a1) (.int .u64 b1) (.int .u64 (a0 + qa)) (.int .u64 (b0 + qb)) (.bool !odd)
              have b1' := below_only hbel o1 (by omega) hbel.size
              refine ⟨b, a - p, a1, b1, a0 + qa, b0 + qb, !odd, rfl, rfl, by omega, by omega, by omega, by omega, (b1'.alloc b1'.size _).drew, ?_, ?_, NX.out, ?_⟩
              · exact (show SB _ _ _ _ _ _ _ from (o1.block _ HG.out.lt (by omega)).trans HG.out).below ((Below.refl _ _).alloc (Nat.le_refl _) _).drew
              · exact (HS.out.set5 a1 b1 (a0 + qa) (b0 + qb) (!odd)).below ((Below.refl _ _).alloc (Nat.le_refl _) _).drew
              · show _ ∧ _ ∧ _ ∧ _
                omega
            case measure => simp [intOf]; omega
end Go.Proofs.YtlpmfmphglgocaaGreatDoor
namespace Go.Proofs.YtlpmfmphglgocaaGreatDoor
open Go.RowKit

/-- The bits of two limbs, put together. -/
theorem bits_two (h l s : Int) (h0 : 0 ≤ h) (l0 : 0 ≤ l) (l1 : l < 18446744073709551616) (s0 : 0 ≤ s) (s1 : s ≤ 63) (hh : h < 2 ^ (64 - s).toNat) :
    ∃ H D Z, IntKind.u64.wrap (h * 2 ^ s.toNat) = H ∧ 0 ≤ H ∧ H < 18446744073709551616 ∧ l / 2 ^ (64 - s).toNat = D ∧ 0 ≤ D ∧ D < 18446744073709551616 ∧ bits BinOp.or .u64 H D = Z ∧ 0 ≤ Z ∧ Z < 18446744073709551616 ∧ Hid (h * 18446744073709551616 + l = Z * 2 ^ (64 - s).toNat + l % 2 ^ (64 - s).toNat) := by
  have hPQ : (2 : Int) ^ s.toNat * 2 ^ (64 - s).toNat = 18446744073709551616 := by rw [← Int.pow_add, show s.toNat + (64 - s).toNat = 64 by omega]; rfl
  have p0 : (0 : Int) < 2 ^ s.toNat := Int.pow_pos (by decide)
  have q0 : (0 : Int) < 2 ^ (64 - s).toNat := Int.pow_pos (by decide)
  obtain ⟨P, hP⟩ : ∃ P : Int, 2 ^ s.toNat = P := ⟨_, rfl⟩
  obtain ⟨Q, hQ⟩ : ∃ Q : Int, 2 ^ (64 - s).toNat = Q := ⟨_, rfl⟩
  have d1 : l / Q < P := Int.ediv_lt_of_lt_mul (by omega) (by rw [← hP, ← hQ, hPQ]; exact l1)
  have d0 : 0 ≤ l / Q := Int.ediv_nonneg l0 (by omega)
  have h1 : (h + 1) * P ≤ Q * P := Int.mul_le_mul_of_nonneg_right (by omega) (by omega)
  have hPQ' : Q * P = 18446744073709551616 := by rw [← hP, ← hQ, Int.mul_comm]; exact hPQ
  have hP0 : 0 ≤ h * P := Int.mul_nonneg h0 (by omega)
  rw [Int.add_mul, Int.one_mul, hPQ'] at h1
  have hPle : P ≤ 18446744073709551616 := by omega
  have hw : IntKind.u64.wrap (h * 2 ^ s.toNat) = h * P := by rw [hP, IntKind.wrap_u64]; omega
  refine ⟨_, _, h * P + l / Q, hw, hP0, by omega, rfl, by rw [hQ]; exact d0, by rw [hQ]; omega, ?_, ?_, ?_, ?_⟩
  · rw [hQ]
    exact bits_join .u64 64 (by decide) wraps_u64 s.toNat _ _ hP0 (by rw [hP]; exact Int.mul_emod_left _ _) (by omega) d0 (by rw [hP]; exact d1) (by omega)
  · omega
  · omega
  · show _ = _
    rw [hQ]
    have e := Int.mul_ediv_add_emod l Q
    rw [Int.add_mul, Int.mul_assoc, Int.mul_comm P Q, hPQ', Int.mul_comm (l / Q) Q]
    omega

set_option maxRecDepth 100000 in
set_option maxHeartbeats 1000000 in
theorem bitsFrom_c (ao : Option Addr) (n cap k : Nat) (z : Int) (f : Nat → Int) (s : Int) (w : World) (hn : n ≤ 140737488355328) (hk : k + 1 ≤ 140737488355328) (hz : z = (k : Int) + 1) (hr : Rd .u64 w ao n f) (hf : Lm f n) (s0 : 0 ≤ s) (s1 : s ≤ 63) (hh : ext f n (k + 1) < 2 ^ (64 - s).toNat) :
    ∃ Z, 0 ≤ Z ∧ Z < 18446744073709551616 ∧ ext f n (k + 1) * 18446744073709551616 + ext f n k = Z * 2 ^ (64 - s).toNat + ext f n k % 2 ^ (64 - s).toNat ∧ Calls Tryz.prog 191 #[.slice ao n cap, .int .i64 z, .int .i64 s] w fun e w' => e = .returned (.int .u64 Z) ∧ ∃ q, w' = w.drewN q := by
  have lm : ∀ j, 0 ≤ ext f n j ∧ ext f n j < 18446744073709551616 := fun j => by
    by_cases hj : j < n
    · rw [ext_in _ _ _ hj]; exact hf j hj
    · rw [ext_out _ _ _ (by omega)]; omega
  have C1 := hid (fun W (h : Rd .u64 W ao n f) => limbAt_c ao n cap f (k + 1) W hn hk h)
  have C2 := hid (fun W (h : Rd .u64 W ao n f) => limbAt_c ao n cap f k W hn (by omega) h)
  obtain ⟨x, hx⟩ : ∃ x, ext f n (k + 1) = x := ⟨_, rfl⟩
  obtain ⟨y, hy⟩ : ∃ y, ext f n k = y := ⟨_, rfl⟩
  have lx := lm (k + 1); have ly := lm k
  rw [hx] at lx hh C1 ⊢
  rw [hy] at ly C2 ⊢
  obtain ⟨H, D, Z, e1, H0, H1, e2, D0, D1, e3, Z0, Z1, HZ⟩ := bits_two x y s lx.1 ly.1 ly.2 s0 s1 hh
  refine ⟨Z, Z0, Z1, HZ.out, ?_⟩
  have HR := hid hr
  obtain ⟨x0, x1⟩ := lx
  obtain ⟨y0, y1⟩ := ly
  have z0 : 1 ≤ z := by omega
  have z1 : z ≤ 140737488355328 := by omega
  have C3 := C2
  rw [show ((k + 1 : Nat) : Int) = z by omega] at C1
  rw [show ((k : Nat) : Int) = z - 1 by omega] at C3
  have C4 := C3
  rw [show z - 1 = IntKind.i64.wrap (z - 1) by rw [IntKind.wrap_i64]; omega] at C4
  have D1 := hid (fun q => (C1.out (w.drewN q) (show Rd .u64 (w.drewN q) ao n f from hr)).mono (R' := fun e w'' => e = .returned (.int .u64 x) ∧ ∃ n, w'' = w.drewN n) (fun _ _ h => ⟨h.1, _, h.2⟩))
  have D3 := hid (fun q => (C3.out (w.drewN q) (show Rd .u64 (w.drewN q) ao n f from hr)).mono (R' := fun e w'' => e = .returned (.int .u64 y) ∧ ∃ n, w'' = w.drewN n) (fun _ _ h => ⟨h.1, _, h.2⟩))
  have D4 := hid (fun q => (C4.out (w.drewN q) (show Rd .u64 (w.drewN q) ao n f from hr)).mono (R' := fun e w'' => e = .returned (.int .u64 y) ∧ ∃ n, w'' = w.drewN n) (fun _ _ h => ⟨h.1, _, h.2⟩))
  clear hr hf lm hx hy hh hz C2 hk C1 C3 C4
  go_enter Tryz.func191, Tryz.ntmps191
  go_wp2
  go_quiet (first | (go_at_call 152; with_reducible exact D1.out _) | (go_at_call 152; with_reducible exact D3.out _) | (go_at_call 152; with_reducible exact D4.out _))
  go_wp2
  go_ret
  exact ⟨rfl, _, rfl⟩
end Go.Proofs.YtlpmfmphglgocaaGreatDoor
namespace Go.Proofs.YtlpmfmphglgocaaGreatDoor
open Go.RowKit

theorem hb_num {g : Nat → Int} {k : Nat} {Z Q : Int} (hl : Lm g (k + 2)) (q0 : 0 < Q) (he : g (k + 1) * 18446744073709551616 + g k = Z * Q + g k % Q) :
    vf g (k + 2) = Z * (Q * pw k) + (g k % Q * pw k + vf g k) ∧ 0 ≤ g k % Q * pw k + vf g k ∧ g k % Q * pw k + vf g k < Q * pw k := by
  have r0 := Int.emod_nonneg (g k) (show Q ≠ 0 by omega)
  have r1 := Int.emod_lt_of_pos (g k) q0
  have v0 := vf_nonneg (hl.mono (m := k) (by omega))
  have v1 := vf_lt (hl.mono (m := k) (by omega))
  have p0 := pw_pos k
  have m0 : 0 ≤ g k % Q * pw k := Int.mul_nonneg r0 (by omega)
  have m1 : (g k % Q + 1) * pw k ≤ Q * pw k := Int.mul_le_mul_of_nonneg_right (by omega) (by omega)
  rw [Int.add_mul, Int.one_mul] at m1
  refine ⟨?_, by omega, by omega⟩
  rw [top2, he]; grind
theorem top_le {f g : Nat → Int} {k : Nat} (hf : Lm f (k + 1)) (hg : Lm g (k + 1)) (h : vf g (k + 1) ≤ vf f (k + 1)) : g k ≤ f k := by
  apply Int.le_of_lt_add_one
  have a1 := vf_lt (hf.mono (m := k) (by omega)); have a2 := vf_nonneg (hg.mono (m := k) (by omega))
  rw [vf_succ, vf_succ] at h
  have : g k * pw k < (f k + 1) * pw k := by rw [Int.add_mul, Int.one_mul]; omega
  exact Int.lt_of_mul_lt_mul_right this (Int.le_of_lt (pw_pos k))

/-- The highest bits of two numbers, at the same places. -/
def Top2 (A B x y : Int) : Prop := 9223372036854775808 ≤ x ∧ x < 18446744073709551616 ∧ 0 ≤ y ∧ y ≤ x ∧ ∃ T ra rb, A = x * T + ra ∧ B = y * T + rb ∧ 0 ≤ ra ∧ ra < T ∧ 0 ≤ rb ∧ rb < T

set_option maxRecDepth 100000 in
set_option maxHeartbeats 2000000 in
theorem highBits_c (ao bo : Option Addr) (n m ca cb : Nat) (f h : Nat → Int) (w : World) (hn : n ≤ 8796093022208) (hn2 : 2 ≤ n) (hmn : m ≤ n) (hr : Rd .u64 w ao n f) (hs : Rd .u64 w bo m h) (hf : Lm f n) (hh : Lm h m) (ff : Fm f n) (hle : vf h m ≤ vf f n) :
    ∃ x y, Top2 (vf f n) (vf h m) x y ∧ Calls Tryz.prog 180 #[.slice ao n ca, .slice bo m cb] w fun e w' => e = .returned (.tuple #[.int .u64 x, .int .u64 y]) ∧ ∃ q, w' = w.drewN q := by
  obtain ⟨k, rfl⟩ : ∃ k, n = k + 2 := ⟨n - 2, by omega⟩
  obtain ⟨b, ob, rfl⟩ := hr.at (by omega)
  obtain ⟨y, hy⟩ : ∃ y, f (k + 1) = y := ⟨_, rfl⟩
  have hcell : w.cell? ⟨b, ob + (k + 1), none⟩ = some (.int .u64 y) := by rw [← hy]; exact hr.cell (by omega)
  have hy01 := hf (k + 1) (by omega)
  have hyne : y ≠ 0 := by rw [← hy]; rcases ff with h | h; omega; simpa using h
  rw [hy] at hy01
  obtain ⟨y, rfl⟩ := Int.eq_ofNat_of_zero_le hy01.1
  obtain ⟨s, s0, s1, hse, hP1, hP2⟩ := lead_nums y (by omega) (by omega)
  have cl := Tryz.bits_LeadingZeros64 (y : Int) w (by omega) (by omega)
  rw [Int.toNat_natCast, hse] at cl
  have hPQ : (2 : Int) ^ s.toNat * 2 ^ (64 - s).toNat = 18446744073709551616 := by rw [← Int.pow_add, show s.toNat + (64 - s).toNat = 64 by omega]; rfl
  obtain ⟨P, hP⟩ : ∃ P : Int, 2 ^ s.toNat = P := ⟨_, rfl⟩
  obtain ⟨Q, hQ⟩ : ∃ Q : Int, 2 ^ (64 - s).toNat = Q := ⟨_, rfl⟩
  have p0 : 0 < P := by rw [← hP]; exact Int.pow_pos (by decide)
  have q0 : 0 < Q := by rw [← hQ]; exact Int.pow_pos (by decide)
  rw [hP] at hP1 hP2 hPQ
  rw [hQ] at hPQ
  have hyQ : (y : Int) < Q := by
    have : ((y : Int) + 1) * P ≤ Q * P := by rw [Int.mul_comm Q P, hPQ]; exact hP2
    have := Int.le_of_mul_le_mul_right this p0
    omega
  have lmx : Lm (ext h m) (k + 2) := fun j hj => by
    by_cases hjm : j < m
    · rw [ext_in _ _ _ hjm]; exact hh j hjm
    · rw [ext_out _ _ _ (by omega)]; omega
  have hvh : vf (ext h m) (k + 2) = vf h m := vf_ext_list _ _ _ hmn
  have htop := top_le hf lmx (by rw [hvh]; exact hle)
  rw [hy] at htop
  have e1 : ext f (k + 2) (k + 1) = f (k + 1) := ext_in _ _ _ (by omega)
  have e0 : ext f (k + 2) k = f k := ext_in _ _ _ (by omega)
  obtain ⟨z, hz⟩ : ∃ z, (k : Int) + 2 - 1 = z := ⟨_, rfl⟩
  have hzn : z.toNat = k + 1 := by omega
  have hz0 : 0 ≤ z := by omega
  have hz1 : z < (k : Int) + 2 := by omega
  obtain ⟨X, X0, X1, hX, cX⟩ := bitsFrom_c (some ⟨b, ob, none⟩) (k + 2) ca k z f s w (by omega) (by omega) (by omega) hr hf s0 s1 (by rw [e1, hy, hQ]; exact hyQ)
  have cY0 := fun q => bitsFrom_c bo m cb k z h s (w.drewN q) (by omega) (by omega) (by omega) (show Rd .u64 (w.drewN q) bo m h from hs) hh s0 s1 (by rw [hQ]; omega)
  rw [e1, e0, hQ] at hX
  obtain ⟨Y, Y0, Y1, hY, _⟩ := cY0 0
  rw [hQ] at hY
  have cY : ∀ q, Calls Tryz.prog 191 #[.slice bo m cb, .int .i64 z, .int .i64 s] (w.drewN q) fun e w' => e = .returned (.int .u64 Y) ∧ ∃ n, w' = (w.drewN q).drewN n := fun q => by
    obtain ⟨Y', a1, a2, a3, a4⟩ := cY0 q
    rw [hQ] at a3
    have : Y' = Y := by
      have e : Y' * Q = Y * Q := by omega
      exact Int.eq_of_mul_eq_mul_right (by omega) e
    rw [this] at a4
    exact a4
  obtain ⟨A1, A2, A3⟩ := hb_num hf q0 hX
  obtain ⟨B1, B2, B3⟩ := hb_num lmx q0 hY
  rw [hvh] at B1
  have hXlow : 9223372036854775808 ≤ X := by
    have m1 : 9223372036854775808 * Q ≤ (y : Int) * P * Q := Int.mul_le_mul_of_nonneg_right hP1 (by omega)
    rw [Int.mul_assoc, hPQ] at m1
    have r1 := Int.emod_lt_of_pos (f k) q0
    have fk := hf k (by omega)
    have : 9223372036854775808 * Q < (X + 1) * Q := by rw [Int.add_mul, Int.one_mul, hy] at *; omega
    have := Int.lt_of_mul_lt_mul_right this (by omega)
    omega
  have hYX : Y ≤ X := by
    have hT : 0 < Q * pw k := Int.mul_pos q0 (pw_pos k)
    have : Y * (Q * pw k) < (X + 1) * (Q * pw k) := by rw [Int.add_mul, Int.one_mul]; omega
    have := Int.lt_of_mul_lt_mul_right this (by omega)
    omega
  refine ⟨X, Y, ⟨hXlow, X1, Y0, hYX, Q * pw k, _, _, A1, B1, A2, A3, B2, B3⟩, ?_⟩
  have CL := hid cl; have CX := hid cX; have CY := hid cY
  clear cl cX cY cY0 hf hh hr hs ff hle hP1 hP2 hPQ hX hY A1 A2 A3 B1 B2 B3 hvh htop lmx e1 e0 hy hse hP hQ
  go_enter Tryz.func180, Tryz.ntmps180
  go_wp2_with fail
  refine CL.out.mono ?_
  rintro e w' ⟨rfl, rfl⟩
  go_wp2_with fail
  refine CX.out.mono ?_
  rintro e w' ⟨rfl, q1, rfl⟩
  go_wp2_with fail
  refine (CY.out _).mono ?_
  rintro e w' ⟨rfl, q2, rfl⟩
  go_wp2
  go_ret2
  exact ⟨rfl, _, by (repeat rw [World.drewN_drewN]) <;> rfl⟩
end Go.Proofs.YtlpmfmphglgocaaGreatDoor
namespace Go.Proofs.YtlpmfmphglgocaaGreatDoor
open Go.RowKit

/-- One limb of both numbers. -/
theorem app_step {p' p q : Nat → Int} {i : Nat} {ca cb c d x y h1 l1 h2 l2 bo v : Int} (hv : vf p' i + (ca - cb) * pw i = c * vf p i - d * vf q i) (hx : p i = x) (hy : q i = y) (e1 : x * c + ca = h1 * 18446744073709551616 + l1) (e2 : y * d + cb = h2 * 18446744073709551616 + l2) (ev : v = l1 - l2 + bo * 18446744073709551616) :
    vf (upd p' i v) (i + 1) + (h1 - (h2 + bo)) * pw (i + 1) = c * vf p (i + 1) - d * vf q (i + 1) := by
  have e : vf (upd p' i v) i = vf p' i := vf_congr (fun j hj => upd_other _ _ _ _ (by omega))
  rw [vf_succ, vf_succ, vf_succ, e, upd_same, pw_succ, hx, hy, ev]
  grind
/-- A number below pw m, told by what it is but for multiples of pw m. -/
theorem mod_one {u v p t s : Int} (h : u + t * p = v + s * p) (u0 : 0 ≤ u) (u1 : u < p) (v0 : 0 ≤ v) (v1 : v < p) : u = v := by
  have e : u - v = (s - t) * p := by rw [Int.sub_mul]; omega
  have hz : s - t = 0 := by
    rcases Int.lt_trichotomy (s - t) 0 with h | h | h
    · have : (s - t) * p ≤ (-1) * p := Int.mul_le_mul_of_nonneg_right (by omega) (by omega)
      omega
    · exact h
    · have : 1 * p ≤ (s - t) * p := Int.mul_le_mul_of_nonneg_right (by omega) (by omega)
      omega
  rw [hz] at e; omega

/-- Nothing but blocks g and h has turned; there may be new ones. -/
structure Only2 (g h : Nat) (w w' : World) : Prop where
  os : w'.os = w.os
  tape : w'.tape = w.tape
  output : w'.output = w.output
  size : w.heap.size ≤ w'.heap.size
  block : ∀ k, k < w.heap.size → k ≠ g → k ≠ h → w'.heap[k]? = w.heap[k]?
theorem Only2.refl (g h : Nat) (w : World) : Only2 g h w w := ⟨rfl, rfl, rfl, Nat.le_refl _, fun _ _ _ _ => rfl⟩
theorem Only2.of1 {g h : Nat} {w w' : World} (o : Only g w w') : Only2 g h w w' := ⟨o.os, o.tape, o.output, o.size, fun k a b _ => o.block k a b⟩
theorem Only2.of2 {g h : Nat} {w w' : World} (o : Only h w w') : Only2 g h w w' := ⟨o.os, o.tape, o.output, o.size, fun k a _ b => o.block k a b⟩
theorem Only2.trans {g h : Nat} {a b c : World} (x : Only2 g h a b) (y : Only2 g h b c) : Only2 g h a c :=
  ⟨y.os.trans x.os, y.tape.trans x.tape, y.output.trans x.output, Nat.le_trans x.size y.size, fun k h1 h2 h3 => (y.block k (Nat.lt_of_lt_of_le h1 x.size) h2 h3).trans (x.block k h1 h2 h3)⟩
theorem Only2.swap {g h : Nat} {a b : World} (x : Only2 g h a b) : Only2 h g a b := ⟨x.os, x.tape, x.output, x.size, fun k h1 h2 h3 => x.block k h1 h3 h2⟩
theorem Only2.drewN {g h : Nat} {a b : World} (x : Only2 g h a b) (q : Nat) : Only2 g h a (b.drewN q) := ⟨x.os, x.tape, x.output, x.size, x.block⟩
theorem Only2.below {g h B : Nat} {w0 w w' : World} (hb : Below B w0 w) (x : Only2 g h w w') (hg : B ≤ g) (hh : B ≤ h) (hB : B ≤ w.heap.size) : Below B w0 w' :=
  hb.trans ⟨x.os, x.tape, x.output, x.size, fun k hk => x.block k (by omega) (by omega) (by omega)⟩
theorem SB.only2 {w w' g h s a0 b0 a1 b1 odd} (x : SB w s a0 b0 a1 b1 odd) (o : Only2 g h w w') (hg : s ≠ g) (hh : s ≠ h) : SB w' s a0 b0 a1 b1 odd := (o.block s x.lt hg hh).trans x

/-- mulAdd with its bounds. -/
theorem mad_of (x c z : Int) (x0 : 0 ≤ x) (x1 : x < 18446744073709551616) (c0 : 0 ≤ c) (c1 : c < 18446744073709551615) (z0 : 0 ≤ z) (z1 : z ≤ c) :
    ∃ h l, (∀ w, Calls Tryz.prog 184 #[.int .u64 x, .int .u64 c, .int .u64 z] w fun e w' => e = .returned (.tuple #[.int .u64 h, .int .u64 l]) ∧ w' = w) ∧ 0 ≤ h ∧ h ≤ c ∧ 0 ≤ l ∧ l < 18446744073709551616 ∧ Hid (x * c + z = h * 18446744073709551616 + l) := by
  have hb : 0 ≤ x * c ∧ x * c ≤ 18446744073709551615 * c := ⟨Int.mul_nonneg x0 c0, Int.mul_le_mul_of_nonneg_right (by omega) c0⟩
  refine ⟨_, _, fun w => mulAdd_c x c z w x0 x1 c0 (by omega) z0 (by omega), ?_, ?_, ?_, ?_, ?_⟩
  · omega
  · omega
  · omega
  · omega
  · show _ = _; omega
theorem mad_of' (x c z : Int) (x0 : 0 ≤ x) (x1 : x < 18446744073709551616) (c0 : 0 ≤ c) (c1 : c < 18446744073709551615) (z0 : 0 ≤ z) (z1 : z ≤ c + 1) :
    ∃ h l, (∀ w, Calls Tryz.prog 184 #[.int .u64 x, .int .u64 c, .int .u64 z] w fun e w' => e = .returned (.tuple #[.int .u64 h, .int .u64 l]) ∧ w' = w) ∧ 0 ≤ h ∧ h ≤ c ∧ 0 ≤ l ∧ l < 18446744073709551616 ∧ Hid (x * c + z = h * 18446744073709551616 + l) := by
  have hb : 0 ≤ x * c ∧ x * c ≤ 18446744073709551615 * c := ⟨Int.mul_nonneg x0 c0, Int.mul_le_mul_of_nonneg_right (by omega) c0⟩
  refine ⟨_, _, fun w => mulAdd_c x c z w x0 x1 c0 (by omega) z0 (by omega), ?_, ?_, ?_, ?_, ?_⟩
  · omega
  · omega
  · omega
  · omega
  · show _ = _; omega
theorem sub_of (l k : Int) (l0 : 0 ≤ l) (l1 : l < 18446744073709551616) (k0 : 0 ≤ k) (k1 : k < 18446744073709551616) :
    ∃ d o, (∀ w, (callFunc 170 #[.int .u64 l, .int .u64 k, .int .u64 0]).run Tryz.prog w = .ok (.value (.tuple #[.int .u64 d, .int .u64 o])) w) ∧ 0 ≤ d ∧ d < 18446744073709551616 ∧ 0 ≤ o ∧ o ≤ 1 ∧ Hid (d = l - k + o * 18446744073709551616) := by
  refine ⟨_, _, fun w => sub64_0 l k l0 k0 k1 w, by omega, by omega, (bor_01 _ _).1, (bor_01 _ _).2, ?_⟩
  show _ = _
  unfold bor; split <;> omega

set_option maxRecDepth 100000 in
set_option maxHeartbeats 8000000 in
theorem apply_c (ga gb Na Nb n m : Nat) (F H : Nat → Int) (a0 b0 a1 b1 : Int) (odd : Bool) (w : World) (hba : Blk .u64 28 w ga Na F) (hbb : Blk .u64 28 w gb Nb H) (la : Lm F Na) (lb : Lm H Nb) (hne : ga ≠ gb) (hnN : n ≤ Na) (hmN : m ≤ Nb) (hmn : m ≤ n) (hm1 : 1 ≤ m) (hNa : Na ≤ 140737488355328) (hNb : Nb ≤ 140737488355328)
    (p0 : 0 ≤ a0 ∧ a0 ≤ 18446744073709551613) (p1 : 0 ≤ b0 ∧ b0 ≤ 18446744073709551613) (p2 : 0 ≤ a1 ∧ a1 ≤ 18446744073709551613) (p3 : 0 ≤ b1 ∧ b1 ≤ 18446744073709551613) (U V : Int) (hU : stU odd a0 b0 (vf F n) (vf H m) = U) (hV : stV odd a1 b1 (vf F n) (vf H m) = V) (u0 : 0 ≤ U) (u1 : U < pw m) (v0 : 0 ≤ V) (v1 : V < pw m) :
    Calls Tryz.prog 182 #[.agg #[.int .u64 a0, .int .u64 b0, .int .u64 a1, .int .u64 b1, .bool odd], .slice (some ⟨ga, 0, none⟩) n Na, .slice (some ⟨gb, 0, none⟩) m Nb] w fun e w' => Only2 ga gb w w' ∧ ∃ gp gq Np Nq k1 k2 c1 c2 P Q x1 x2, e = .returned (.tuple #[.slice x1 k1 c1, .slice x2 k2 c2]) ∧ (gp = ga ∧ gq = gb ∨ gp = gb ∧ gq = ga) ∧ Blk .u64 28 w' gp Np P ∧ Blk .u64 28 w' gq Nq Q ∧ Lm P Np ∧ Lm Q Nq ∧ Np ≤ 140737488355328 ∧ Nq ≤ 140737488355328 ∧ (x1 = none ∧ k1 = 0 ∧ c1 = 0 ∨ x1 = some ⟨gp, 0, none⟩ ∧ 0 < k1 ∧ c1 = Np) ∧ (x2 = none ∧ k2 = 0 ∧ c2 = 0 ∨ x2 = some ⟨gq, 0, none⟩ ∧ 0 < k2 ∧ c2 = Nq) ∧ k1 ≤ Np ∧ k2 ≤ Nq ∧ Fm P k1 ∧ Fm Q k2 ∧ vf P k1 = U ∧ vf Q k2 = V := by
  have HBa := hid hba; have HBb := hid hbb; have HLa := hid la; have HLb := hid lb; have HU := hid hU; have HV := hid hV
  have U1 := hid u1; have V1 := hid v1
  have ga_lt := hba.lt; have gb_lt := hbb.lt
  clear hba hbb la lb hU hV u1 v1
  obtain ⟨p00, p01⟩ := p0; obtain ⟨p10, p11⟩ := p1; obtain ⟨p20, p21⟩ := p2; obtain ⟨p30, p31⟩ := p3
  have i1 : (m : Int) ≤ (Na : Int) := by omega
  go_enter Tryz.func182, Tryz.ntmps182
  cases odd
  · skip
    go_wp2
    have hS0 : SB (w.alloc (.cells #[.int .u64 a0, .int .u64 b0, .int .u64 a1, .int .u64 b1, .bool false] 177)) w.heap.size a0 b0 a1 b1 false := heap_alloc_new w _
    have hP0 := HBa.out.alloc (.cells #[.int .u64 a0, .int .u64 b0, .int .u64 a1, .int .u64 b1, .bool false] 177)
    have hQ0 := HBb.out.alloc (.cells #[.int .u64 a0, .int .u64 b0, .int .u64 a1, .int .u64 b1, .bool false] 177)
    have HS0 := hid hS0; have HP0 := hid hP0; have HQ0 := hid hQ0
    clear hS0 hP0 hQ0
    go_loopw [8, 9, 10, 11, 12, 40] (fun c1 c2 c3 c4 c5 t wr => ∃ (i : Nat) (pa lb pb la bw : Int) (P Q : Nat → Int), i ≤ m ∧ t = .int .i64 i ∧ c1 = .int .u64 pa ∧ c2 = .int .u64 lb ∧ c3 = .int .u64 pb ∧ c4 = .int .u64 la ∧ c5 = .int .u64 bw ∧ 0 ≤ pa ∧ pa ≤ a0 ∧ 0 ≤ lb ∧ lb ≤ b0 + 1 ∧ 0 ≤ pb ∧ pb ≤ b1 ∧ 0 ≤ la ∧ la ≤ a1 + 1 ∧ Hid (Only2 ga gb w wr) ∧ Hid (w.heap.size < wr.heap.size) ∧ Hid (SB wr w.heap.size a0 b0 a1 b1 false) ∧ Hid (Blk .u64 28 wr ga Na P) ∧ Hid (Blk .u64 28 wr gb Nb Q) ∧ Hid (Lm P Na) ∧ Hid (Lm Q Nb) ∧ Hid (∀ j, i ≤ j → P j = F j) ∧ Hid (∀ j, i ≤ j → Q j = H j) ∧ Hid (vf P i + (pa - lb) * pw i = a0 * vf F i - b0 * vf H i) ∧ Hid (vf Q i + (pb - la) * pw i = b1 * vf H i - a1 * vf F i)) (fun _ _ _ _ _ t _ => m - (intOf t).toNat)
    case atStart => exact ⟨0, 0, 0, 0, 0, 0, F, H, by omega, rfl, rfl, rfl, rfl, rfl, rfl, by omega, by omega, by omega, by omega, by omega, by omega, by omega, by omega, Only2.of1 ((Only.refl _ _).alloc _), (by show _ < _; simp), HS0.out, HP0.out, HQ0.out, HLa.out, HLb.out, fun _ _ => rfl, fun _ _ => rfl, by simp [Hid, vf, pw], by simp [Hid, vf, pw]⟩
    case round =>
      clear HS0 HP0 HQ0
      obtain ⟨i, pa, lb, pb, la, bw, P, Q, hi, rfl, rfl, rfl, rfl, rfl, rfl, a1', a2, a3, a4, a5, a6, a7, a8, HO, HSz, HS, HP, HQ, HLP, HLQ, HEP, HEQ, HV1, HV2⟩ := hrel
      by_cases hlt : i < m
      · obtain ⟨x, hx⟩ : ∃ x, P i = x := ⟨_, rfl⟩
        obtain ⟨y, hy⟩ : ∃ y, Q i = y := ⟨_, rfl⟩
        have hcx : wr.cell? ⟨ga, i, none⟩ = some (.int .u64 x) := by rw [← hx]; exact HP.out.cell (by omega)
        have hcy : wr.cell? ⟨gb, i, none⟩ = some (.int .u64 y) := by rw [← hy]; exact HQ.out.cell (by omega)
        have fzp := HP.out.frozen i
        have fzq := HQ.out.frozen i
        obtain ⟨s0, s1, s2, s3, s4⟩ := HS.out.cells
        have hgs1 : w.heap.size ≠ ga := by omega
        have hgs2 : w.heap.size ≠ gb := by omega
        have t2 : ∀ v, (wr.setCell ⟨ga, i, none⟩ v).cell? ⟨w.heap.size, 2, none⟩ = some (.int .u64 a1) := fun v => (World.cell?_of_block (Below.heap_setCell _ _ _ _ (by simpa using hgs1))).trans s2
        have t3 : ∀ v, (wr.setCell ⟨ga, i, none⟩ v).cell? ⟨w.heap.size, 3, none⟩ = some (.int .u64 b1) := fun v => (World.cell?_of_block (Below.heap_setCell _ _ _ _ (by simpa using hgs1))).trans s3
        have tq : ∀ v, (wr.setCell ⟨ga, i, none⟩ v).cell? ⟨gb, i, none⟩ = some (.int .u64 y) := fun v => (World.cell?_of_block (Below.heap_setCell _ _ _ _ (by simp; omega))).trans hcy
        have fq : ∀ v, (wr.setCell ⟨ga, i, none⟩ (.int .u64 v)).frozen? ⟨gb, i, none⟩ = false := fun v => (HQ.out.setOther (a := ⟨ga, i, none⟩) (by simp; omega) (.int .u64 v)).frozen i
        have bx := HLP.out i (by omega); have by' := HLQ.out i (by omega)
        rw [hx] at bx; rw [hy] at by'
        obtain ⟨x0, x1⟩ := bx; obtain ⟨y0, y1⟩ := by'
        have HX := hid (show F i = x by rw [← HEP.out i (Nat.le_refl _), hx]); have HY := hid (show H i = y by rw [← HEQ.out i (Nat.le_refl _), hy])
        clear hx hy
        obtain ⟨h1, l1, M1, q10, q11, r10, r11, E1⟩ := mad_of x a0 pa x0 x1 p00 (by omega) a1' a2
        obtain ⟨h2, l2, M2, q20, q21, r20, r21, E2⟩ := mad_of' y b0 lb y0 y1 p10 (by omega) a3 a4
        obtain ⟨h3, l3, M3, q30, q31, r30, r31, E3⟩ := mad_of y b1 pb y0 y1 p30 (by omega) a5 a6
        obtain ⟨h4, l4, M4, q40, q41, r40, r41, E4⟩ := mad_of' x a1 la x0 x1 p20 (by omega) a7 a8
        obtain ⟨d1, o1', S1, d10, d11, o10, o11, F1⟩ := sub_of l1 l2 r10 r11 r20 r21
        obtain ⟨d2, o2', S2, d20, d21, o20, o21, F2⟩ := sub_of l3 l4 r30 r31 r40 r41
        have CM1 := hid M1; have CM2 := hid M2; have CM3 := hid M3; have CM4 := hid M4
        clear M1 M2 M3 M4
        go_wp2
        go_quiet (fail)
        go_wp2_with fail
        refine (CM1.out _).mono ?_
        rintro e w1 ⟨rfl, rfl⟩
        go_wp2_with fail
        refine (CM2.out _).mono ?_
        rintro e w1 ⟨rfl, rfl⟩
        go_wp2_with fail
        refine (CM3.out _).mono ?_
        rintro e w1 ⟨rfl, rfl⟩
        go_wp2_with fail
        refine (CM4.out _).mono ?_
        rintro e w1 ⟨rfl, rfl⟩
        go_wp2
        go_roundw
        case rel =>
          have o1 : Only ga wr _ := (Only.refl ga wr).setCell i none (.int .u64 d1)
          have o2 : Only gb (wr.setCell ⟨ga, i, none⟩ (.int .u64 d1)) _ := (Only.refl gb (wr.setCell ⟨ga, i, none⟩ (.int .u64 d1))).setCell i none (.int .u64 d2)
          have oo := (Only2.of1 (h := gb) o1).trans (Only2.of2 (g := ga) o2)
          have hsz := HSz.out
          refine ⟨i + 1, h1, h2 + o1', h3, h4 + o2', o2', upd P i d1, upd Q i d2, by omega, by go_num, rfl, rfl, rfl, rfl, rfl, by omega, by omega, by omega, by omega, by omega, by omega, by omega, by omega, ?_, ?_, ?_, ?_, ?_, HLP.out.upd ⟨d10, d11⟩, HLQ.out.upd ⟨d20, d21⟩, ?_, ?_, ?_, ?_⟩
          · exact HO.out.trans ⟨oo.os, oo.tape, oo.output, oo.size, oo.block⟩
          · show _ < _
            have := oo.size
            exact Nat.lt_of_lt_of_le hsz this
          · exact HS.out.only2 ⟨oo.os, oo.tape, oo.output, oo.size, oo.block⟩ hgs1 hgs2
          · exact (HP.out.set i d1).setOther (a := ⟨gb, i, none⟩) (by simp; omega) (.int .u64 d2)
          · exact (HQ.out.setOther (a := ⟨ga, i, none⟩) (by simp; omega) (.int .u64 d1)).set i d2
          · intro j hj
            rw [upd_other _ _ _ _ (by omega)]; exact HEP.out j (by omega)
          · intro j hj
            rw [upd_other _ _ _ _ (by omega)]; exact HEQ.out j (by omega)
          · exact app_step HV1.out HX.out HY.out E1.out E2.out F1.out
          · exact app_step HV2.out HY.out HX.out E3.out E4.out F2.out
        case measure => simp [intOf]; omega
      · obtain rfl : i = m := by omega
        have n1 := vf_nonneg (HLP.out.mono (m := i) (by omega)); have n2 := vf_lt (HLP.out.mono (m := i) (by omega))
        have n3 := vf_nonneg (HLQ.out.mono (m := i) (by omega)); have n4 := vf_lt (HLQ.out.mono (m := i) (by omega))
        have hcut : vf F n = vf F i + vf (sh F i) (n - i) * pw i := by rw [← vf_split, show i + (n - i) = n by omega]
        have hPu : vf P i = U := by
          have e := HU.out
          simp only [stU, if_false, Bool.false_eq_true] at e
          rw [hcut] at e
          refine mod_one (p := pw i) (t := pa - lb) (s := -(a0 * vf (sh F i) (n - i))) ?_ n1 n2 u0 U1.out
          rw [HV1.out, ← e]; grind
        have hQv : vf Q i = V := by
          have e := HV.out
          simp only [stV, if_false, Bool.false_eq_true] at e
          rw [hcut] at e
          refine mod_one (p := pw i) (t := pb - la) (s := a1 * vf (sh F i) (n - i)) ?_ n3 n4 v0 V1.out
          rw [HV2.out, ← e]; grind
        have HPu := hid hPu; have HQv := hid hQv
        clear n1 n2 n3 n4 hcut hPu hQv
        go_wp2_with fail
        refine (trim_c (some ⟨ga, 0, none⟩) i Na P wr (by omega) (by omega) (HP.out.rd0 (by omega))).mono ?_
        rintro e w1 ⟨rfl, k1, hk1, hz1, he1⟩
        have Z1 := hid hz1
        clear hz1
        obtain ⟨x1, c1, hx1, hf1, hc1⟩ : ∃ x1 c1, e = .returned (.slice x1 k1 c1) ∧ Fm P k1 ∧ (x1 = none ∧ k1 = 0 ∧ c1 = 0 ∨ x1 = some ⟨ga, 0, none⟩ ∧ 0 < k1 ∧ c1 = Na) := by
          rcases he1 with ⟨h0, he⟩ | ⟨h0, hn0, he⟩
          · exact ⟨none, 0, by rw [he, h0], .inl h0, .inl ⟨rfl, h0, rfl⟩⟩
          · exact ⟨_, _, he, .inr hn0, .inr ⟨rfl, h0, rfl⟩⟩
        subst hx1
        have HF1 := hid hf1; have HC1 := hid hc1
        clear he1 hf1 hc1
        go_wp2_with fail
        refine (trim_c (some ⟨gb, 0, none⟩) i Nb Q _ (by omega) (by omega) (HQ.out.rd0 (by omega))).mono ?_
        rintro e w1 ⟨rfl, k2, hk2, hz2, he2⟩
        have Z2 := hid hz2
        clear hz2
        obtain ⟨x2, c2, hx2, hf2, hc2⟩ : ∃ x2 c2, e = .returned (.slice x2 k2 c2) ∧ Fm Q k2 ∧ (x2 = none ∧ k2 = 0 ∧ c2 = 0 ∨ x2 = some ⟨gb, 0, none⟩ ∧ 0 < k2 ∧ c2 = Nb) := by
          rcases he2 with ⟨h0, he⟩ | ⟨h0, hn0, he⟩
          · exact ⟨none, 0, by rw [he, h0], .inl h0, .inl ⟨rfl, h0, rfl⟩⟩
          · exact ⟨_, _, he, .inr hn0, .inr ⟨rfl, h0, rfl⟩⟩
        subst hx2
        have HF2 := hid hf2; have HC2 := hid hc2
        clear he2 hf2 hc2
        go_wp2
        go_ret2
        refine ⟨HO.out, ga, gb, Na, Nb, k1, k2, c1, c2, P, Q, x1, x2, rfl, .inl ⟨rfl, rfl⟩, HP.out, HQ.out, HLP.out, HLQ.out, by omega, by omega, HC1.out, HC2.out, by omega, by omega, HF1.out, HF2.out, ?_, ?_⟩
        · rw [trim_val hk1 Z1.out]; exact HPu.out
        · rw [trim_val hk2 Z2.out]; exact HQv.out
  · skip
    go_wp2
    have hS0 : SB (w.alloc (.cells #[.int .u64 b0, .int .u64 a0, .int .u64 b1, .int .u64 a1, .bool true] 177)) w.heap.size b0 a0 b1 a1 true := heap_alloc_new w _
    have hP0 := HBb.out.alloc (.cells #[.int .u64 b0, .int .u64 a0, .int .u64 b1, .int .u64 a1, .bool true] 177)
    have hQ0 := HBa.out.alloc (.cells #[.int .u64 b0, .int .u64 a0, .int .u64 b1, .int .u64 a1, .bool true] 177)
    have HS0 := hid hS0; have HP0 := hid hP0; have HQ0 := hid hQ0
    clear hS0 hP0 hQ0
    go_loopw [8, 9, 10, 11, 12, 40] (fun c1 c2 c3 c4 c5 t wr => ∃ (i : Nat) (pa lb pb la bw : Int) (P Q : Nat → Int), i ≤ m ∧ t = .int .i64 i ∧ c1 = .int .u64 pa ∧ c2 = .int .u64 lb ∧ c3 = .int .u64 pb ∧ c4 = .int .u64 la ∧ c5 = .int .u64 bw ∧ 0 ≤ pa ∧ pa ≤ b0 ∧ 0 ≤ lb ∧ lb ≤ a0 + 1 ∧ 0 ≤ pb ∧ pb ≤ a1 ∧ 0 ≤ la ∧ la ≤ b1 + 1 ∧ Hid (Only2 gb ga w wr) ∧ Hid (w.heap.size < wr.heap.size) ∧ Hid (SB wr w.heap.size b0 a0 b1 a1 true) ∧ Hid (Blk .u64 28 wr gb Nb P) ∧ Hid (Blk .u64 28 wr ga Na Q) ∧ Hid (Lm P Nb) ∧ Hid (Lm Q Na) ∧ Hid (∀ j, i ≤ j → P j = H j) ∧ Hid (∀ j, i ≤ j → Q j = F j) ∧ Hid (vf P i + (pa - lb) * pw i = b0 * vf H i - a0 * vf F i) ∧ Hid (vf Q i + (pb - la) * pw i = a1 * vf F i - b1 * vf H i)) (fun _ _ _ _ _ t _ => m - (intOf t).toNat)
    case atStart => exact ⟨0, 0, 0, 0, 0, 0, H, F, by omega, rfl, rfl, rfl, rfl, rfl, rfl, by omega, by omega, by omega, by omega, by omega, by omega, by omega, by omega, Only2.of1 ((Only.refl _ _).alloc _), (by show _ < _; simp), HS0.out, HP0.out, HQ0.out, HLb.out, HLa.out, fun _ _ => rfl, fun _ _ => rfl, by simp [Hid, vf, pw], by simp [Hid, vf, pw]⟩
    case round =>
      clear HS0 HP0 HQ0
      obtain ⟨i, pa, lb, pb, la, bw, P, Q, hi, rfl, rfl, rfl, rfl, rfl, rfl, a1', a2, a3, a4, a5, a6, a7, a8, HO, HSz, HS, HP, HQ, HLP, HLQ, HEP, HEQ, HV1, HV2⟩ := hrel
      by_cases hlt : i < m
      · obtain ⟨x, hx⟩ : ∃ x, P i = x := ⟨_, rfl⟩
        obtain ⟨y, hy⟩ : ∃ y, Q i = y := ⟨_, rfl⟩
        have hcx : wr.cell? ⟨gb, i, none⟩ = some (.int .u64 x) := by rw [← hx]; exact HP.out.cell (by omega)
        have hcy : wr.cell? ⟨ga, i, none⟩ = some (.int .u64 y) := by rw [← hy]; exact HQ.out.cell (by omega)
        have fzp := HP.out.frozen i
        have fzq := HQ.out.frozen i
        obtain ⟨s0, s1, s2, s3, s4⟩ := HS.out.cells
        have hgs1 : w.heap.size ≠ gb := by omega
        have hgs2 : w.heap.size ≠ ga := by omega
        have t2 : ∀ v, (wr.setCell ⟨gb, i, none⟩ v).cell? ⟨w.heap.size, 2, none⟩ = some (.int .u64 b1) := fun v => (World.cell?_of_block (Below.heap_setCell _ _ _ _ (by simpa using hgs1))).trans s2
        have t3 : ∀ v, (wr.setCell ⟨gb, i, none⟩ v).cell? ⟨w.heap.size, 3, none⟩ = some (.int .u64 a1) := fun v => (World.cell?_of_block (Below.heap_setCell _ _ _ _ (by simpa using hgs1))).trans s3
        have tq : ∀ v, (wr.setCell ⟨gb, i, none⟩ v).cell? ⟨ga, i, none⟩ = some (.int .u64 y) := fun v => (World.cell?_of_block (Below.heap_setCell _ _ _ _ (by simp; omega))).trans hcy
        have fq : ∀ v, (wr.setCell ⟨gb, i, none⟩ (.int .u64 v)).frozen? ⟨ga, i, none⟩ = false := fun v => (HQ.out.setOther (a := ⟨gb, i, none⟩) (by simp; omega) (.int .u64 v)).frozen i
        have bx := HLP.out i (by omega); have by' := HLQ.out i (by omega)
        rw [hx] at bx; rw [hy] at by'
        obtain ⟨x0, x1⟩ := bx; obtain ⟨y0, y1⟩ := by'
        have HX := hid (show H i = x by rw [← HEP.out i (Nat.le_refl _), hx]); have HY := hid (show F i = y by rw [← HEQ.out i (Nat.le_refl _), hy])
        clear hx hy
        obtain ⟨h1, l1, M1, q10, q11, r10, r11, E1⟩ := mad_of x b0 pa x0 x1 p10 (by omega) a1' a2
        obtain ⟨h2, l2, M2, q20, q21, r20, r21, E2⟩ := mad_of' y a0 lb y0 y1 p00 (by omega) a3 a4
        obtain ⟨h3, l3, M3, q30, q31, r30, r31, E3⟩ := mad_of y a1 pb y0 y1 p20 (by omega) a5 a6
        obtain ⟨h4, l4, M4, q40, q41, r40, r41, E4⟩ := mad_of' x b1 la x0 x1 p30 (by omega) a7 a8
        obtain ⟨d1, o1', S1, d10, d11, o10, o11, F1⟩ := sub_of l1 l2 r10 r11 r20 r21
        obtain ⟨d2, o2', S2, d20, d21, o20, o21, F2⟩ := sub_of l3 l4 r30 r31 r40 r41
        have CM1 := hid M1; have CM2 := hid M2; have CM3 := hid M3; have CM4 := hid M4
        clear M1 M2 M3 M4
        go_wp2
        go_quiet (fail)
        go_wp2_with fail
        refine (CM1.out _).mono ?_
        rintro e w1 ⟨rfl, rfl⟩
        go_wp2_with fail
        refine (CM2.out _).mono ?_
        rintro e w1 ⟨rfl, rfl⟩
        go_wp2_with fail
        refine (CM3.out _).mono ?_
        rintro e w1 ⟨rfl, rfl⟩
        go_wp2_with fail
        refine (CM4.out _).mono ?_
        rintro e w1 ⟨rfl, rfl⟩
        go_wp2
        go_roundw
        case rel =>
          have o1 : Only gb wr _ := (Only.refl gb wr).setCell i none (.int .u64 d1)
          have o2 : Only ga (wr.setCell ⟨gb, i, none⟩ (.int .u64 d1)) _ := (Only.refl ga (wr.setCell ⟨gb, i, none⟩ (.int .u64 d1))).setCell i none (.int .u64 d2)
          have oo := (Only2.of1 (h := ga) o1).trans (Only2.of2 (g := gb) o2)
          have hsz := HSz.out
          refine ⟨i + 1, h1, h2 + o1', h3, h4 + o2', o2', upd P i d1, upd Q i d2, by omega, by go_num, rfl, rfl, rfl, rfl, rfl, by omega, by omega, by omega, by omega, by omega, by omega, by omega, by omega, ?_, ?_, ?_, ?_, ?_, HLP.out.upd ⟨d10, d11⟩, HLQ.out.upd ⟨d20, d21⟩, ?_, ?_, ?_, ?_⟩
          · exact HO.out.trans ⟨oo.os, oo.tape, oo.output, oo.size, oo.block⟩
          · show _ < _
            have := oo.size
            exact Nat.lt_of_lt_of_le hsz this
          · exact HS.out.only2 ⟨oo.os, oo.tape, oo.output, oo.size, oo.block⟩ hgs1 hgs2
          · exact (HP.out.set i d1).setOther (a := ⟨ga, i, none⟩) (by simp; omega) (.int .u64 d2)
          · exact (HQ.out.setOther (a := ⟨gb, i, none⟩) (by simp; omega) (.int .u64 d1)).set i d2
          · intro j hj
            rw [upd_other _ _ _ _ (by omega)]; exact HEP.out j (by omega)
          · intro j hj
            rw [upd_other _ _ _ _ (by omega)]; exact HEQ.out j (by omega)
          · exact app_step HV1.out HX.out HY.out E1.out E2.out F1.out
          · exact app_step HV2.out HY.out HX.out E3.out E4.out F2.out
        case measure => simp [intOf]; omega
      · obtain rfl : i = m := by omega
        have n1 := vf_nonneg (HLP.out.mono (m := i) (by omega)); have n2 := vf_lt (HLP.out.mono (m := i) (by omega))
        have n3 := vf_nonneg (HLQ.out.mono (m := i) (by omega)); have n4 := vf_lt (HLQ.out.mono (m := i) (by omega))
        have hcut : vf F n = vf F i + vf (sh F i) (n - i) * pw i := by rw [← vf_split, show i + (n - i) = n by omega]
        have hPu : vf P i = U := by
          have e := HU.out
          simp only [stU, if_true] at e
          rw [hcut] at e
          refine mod_one (p := pw i) (t := pa - lb) (s := a0 * vf (sh F i) (n - i)) ?_ n1 n2 u0 U1.out
          rw [HV1.out, ← e]; grind
        have hQv : vf Q i = V := by
          have e := HV.out
          simp only [stV, if_true] at e
          rw [hcut] at e
          refine mod_one (p := pw i) (t := pb - la) (s := -(a1 * vf (sh F i) (n - i))) ?_ n3 n4 v0 V1.out
          rw [HV2.out, ← e]; grind
        have HPu := hid hPu; have HQv := hid hQv
        clear n1 n2 n3 n4 hcut hPu hQv
        go_wp2_with fail
        refine (trim_c (some ⟨gb, 0, none⟩) i Nb P wr (by omega) (by omega) (HP.out.rd0 (by omega))).mono ?_
        rintro e w1 ⟨rfl, k1, hk1, hz1, he1⟩
        have Z1 := hid hz1
        clear hz1
        obtain ⟨x1, c1, hx1, hf1, hc1⟩ : ∃ x1 c1, e = .returned (.slice x1 k1 c1) ∧ Fm P k1 ∧ (x1 = none ∧ k1 = 0 ∧ c1 = 0 ∨ x1 = some ⟨gb, 0, none⟩ ∧ 0 < k1 ∧ c1 = Nb) := by
          rcases he1 with ⟨h0, he⟩ | ⟨h0, hn0, he⟩
          · exact ⟨none, 0, by rw [he, h0], .inl h0, .inl ⟨rfl, h0, rfl⟩⟩
          · exact ⟨_, _, he, .inr hn0, .inr ⟨rfl, h0, rfl⟩⟩
        subst hx1
        have HF1 := hid hf1; have HC1 := hid hc1
        clear he1 hf1 hc1
        go_wp2_with fail
        refine (trim_c (some ⟨ga, 0, none⟩) i Na Q _ (by omega) (by omega) (HQ.out.rd0 (by omega))).mono ?_
        rintro e w1 ⟨rfl, k2, hk2, hz2, he2⟩
        have Z2 := hid hz2
        clear hz2
        obtain ⟨x2, c2, hx2, hf2, hc2⟩ : ∃ x2 c2, e = .returned (.slice x2 k2 c2) ∧ Fm Q k2 ∧ (x2 = none ∧ k2 = 0 ∧ c2 = 0 ∨ x2 = some ⟨ga, 0, none⟩ ∧ 0 < k2 ∧ c2 = Na) := by
          rcases he2 with ⟨h0, he⟩ | ⟨h0, hn0, he⟩
          · exact ⟨none, 0, by rw [he, h0], .inl h0, .inl ⟨rfl, h0, rfl⟩⟩
          · exact ⟨_, _, he, .inr hn0, .inr ⟨rfl, h0, rfl⟩⟩
        subst hx2
        have HF2 := hid hf2; have HC2 := hid hc2
        clear he2 hf2 hc2
        go_wp2
        go_ret2
        refine ⟨HO.out.swap, gb, ga, Nb, Na, k1, k2, c1, c2, P, Q, x1, x2, rfl, .inr ⟨rfl, rfl⟩, HP.out, HQ.out, HLP.out, HLQ.out, by omega, by omega, HC1.out, HC2.out, by omega, by omega, HF1.out, HF2.out, ?_, ?_⟩
        · rw [trim_val hk1 Z1.out]; exact HPu.out
        · rw [trim_val hk2 Z2.out]; exact HQv.out
end Go.Proofs.YtlpmfmphglgocaaGreatDoor
namespace Go.Proofs.YtlpmfmphglgocaaGreatDoor
open Go.RowKit

set_option maxHeartbeats 400000 in
theorem some_c (a0 b0 a1 b1 : Int) (odd : Bool) (w : World) : Calls Tryz.prog 181 #[.agg #[.int .u64 a0, .int .u64 b0, .int .u64 a1, .int .u64 b1, .bool odd]] w fun e w' => e = .returned (.bool (b0 != 0)) ∧ Below w.heap.size w w' := by
  go_enter Tryz.func181, Tryz.ntmps181
  go_wp2
  go_ret
  exact ⟨rfl, (Below.refl _ _).alloc (Nat.le_refl _) _⟩

/-- A number in a block of the call's own (blocks from base on). -/
def One (base : Nat) (w : World) (x : Option Addr) (k c g : Nat) (A : Int) : Prop := ∃ P, x = some ⟨g, 0, none⟩ ∧ 0 < k ∧ k ≤ c ∧ c ≤ 140737488355328 ∧ base ≤ g ∧ Blk .u64 28 w g c P ∧ Lm P c ∧ Fm P k ∧ vf P k = A
theorem One.below {base w w' x k c g A} (h : One base w x k c g A) (hb : Below w.heap.size w w') : One base w' x k c g A := by
  obtain ⟨P, h1, h2, h3, h4, h5, h6, h7, h8, h9⟩ := h
  exact ⟨P, h1, h2, h3, h4, h5, h6.below hb h6.lt, h7, h8, h9⟩
/-- Two numbers, the second maybe 0, in blocks of their own. -/
def Two (base : Nat) (w : World) (x1 : Option Addr) (k1 c1 : Nat) (x2 : Option Addr) (k2 c2 : Nat) (A B : Int) : Prop :=
  ∃ g1, One base w x1 k1 c1 g1 A ∧ 0 ≤ B ∧ B ≤ A ∧ ((x2 = none ∧ k2 = 0 ∧ c2 = 0 ∧ B = 0) ∨ ∃ g2, g1 ≠ g2 ∧ One base w x2 k2 c2 g2 B)
theorem Two.below {base w w' x1 k1 c1 x2 k2 c2 A B} (h : Two base w x1 k1 c1 x2 k2 c2 A B) (hb : Below w.heap.size w w') : Two base w' x1 k1 c1 x2 k2 c2 A B := by
  obtain ⟨g1, h1, h2, h3, h4⟩ := h
  exact ⟨g1, h1.below hb, h2, h3, h4.imp id (fun ⟨g2, a, b⟩ => ⟨g2, a, b.below hb⟩)⟩

set_option maxRecDepth 100000 in
set_option maxHeartbeats 8000000 in
theorem euclid_c (base : Nat) (x1 x2 : Option Addr) (k1 c1 k2 c2 K : Nat) (A B : Int) (w : World) (h : Two base w x1 k1 c1 x2 k2 c2 A B) (hk2 : 2 ≤ k2) (hAK : A < pw K) (hK : K ≤ 8796093022207) (hbase : base ≤ w.heap.size) :
    Calls Tryz.prog 163 #[.slice x1 k1 c1, .slice x2 k2 c2] w fun e w' => ∃ y1 l1 d1 y2 l2 d2 A' B', e = .returned (.tuple #[.slice y1 l1 d1, .slice y2 l2 d2]) ∧ Below base w w' ∧ Two base w' y1 l1 d1 y2 l2 d2 A' B' ∧ Cd A' B' A B ∧ B' < B ∧ A' ≤ A := by
  obtain ⟨g1, ⟨P, rfl, a1, a2, a3, a4, hbP, lP, fP, vP⟩, b0, b1, h2⟩ := h
  rcases h2 with ⟨_, hz, _⟩ | ⟨g2, hne, Q, rfl, e1, e2, e3, e4, hbQ, lQ, fQ, vQ⟩
  · omega
  have hk1K : k1 ≤ K := mid_len (lP.mono a2) fP (by rw [vP]; exact hAK)
  have hk21 : k2 ≤ k1 := vf_len (lQ.mono e2) (lP.mono a2) fQ (by rw [vP, vQ]; exact b1)
  have hA0 : 0 ≤ A := by rw [← vP]; exact vf_nonneg (lP.mono a2)
  have hBlt : B < pw k2 := by rw [← vQ]; exact vf_lt (lQ.mono e2)
  obtain ⟨x, y, hT, cH⟩ := highBits_c (some ⟨g1, 0, none⟩) (some ⟨g2, 0, none⟩) k1 k2 c1 c2 P Q w (by omega) (by omega) hk21 (hbP.rd0 a2) (hbQ.rd0 e2) (lP.mono a2) (lQ.mono e2) fP (by rw [vP, vQ]; exact b1)
  rw [vP, vQ] at hT
  obtain ⟨t1, t2, t3, t4, T, ra, rb, hA, hB, ra0, ra1, rb0, rb1⟩ := hT
  have CH := hid cH
  have CF := hid (fun W => findSteps_c x y W t3 t4 (by omega) t2)
  have HP := hid hbP; have HQ := hid hbQ; have LP := hid lP; have LQ := hid lQ; have FP := hid fP; have FQ := hid fQ; have VP := hid vP; have VQ := hid vQ; have HA := hid hA; have HB := hid hB; have BLT := hid hBlt
  clear cH hbP hbQ lP lQ fP fQ vP vQ hA hB hBlt hAK
  go_enter Tryz.func163, Tryz.ntmps163
  go_wp2_with fail
  refine CH.out.mono ?_
  rintro e w1 ⟨rfl, q1, rfl⟩
  go_wp2_with fail
  refine (CF.out _).mono ?_
  rintro e w2 ⟨hbel2, a0, b0', a1', b1', odd, a, b, rfl, hL, hx0⟩
  have HL := hid hL; have HX0 := hid hx0
  have BE2 := hid (show Below w.heap.size w w2 from ⟨hbel2.os, hbel2.tape, hbel2.output, hbel2.size, hbel2.block⟩)
  clear hL hx0 hbel2 CF CH
  go_wp2_with fail
  refine (some_c a0 b0' a1' b1' odd _).mono ?_
  rintro e w3 ⟨rfl, hbel3⟩
  have hS3 : SB w3 w2.heap.size a0 b0' a1' b1' odd := (show SB (w2.alloc _) w2.heap.size a0 b0' a1' b1' odd from heap_alloc_new w2 _).below hbel3
  have z2 := BE2.out.size
  have BE3 := hid (show Below w.heap.size w w3 from (BE2.out.alloc z2 _).trans (hbel3.mono (by simp; omega)))
  have HP3 := hid (HP.out.below BE3.out HP.out.lt); have HQ3 := hid (HQ.out.below BE3.out HQ.out.lt)
  obtain ⟨s0, s1, s2, s3, s4⟩ := hS3.cells
  have g1lt := HP.out.lt; have g2lt := HQ.out.lt
  clear hbel3 hS3 HP HQ
  by_cases hz : b0' = 0
  · have hzb : (b0' != 0) = false := by simp [hz]
    rw [hzb]
    go_wp2_with fail
    refine (divMod_c (some ⟨g1, 0, none⟩) (some ⟨g2, 0, none⟩) k1 k2 c1 c2 P Q w3 (by omega) (by omega) (HP3.out.rd0 a2) (HQ3.out.rd0 e2) (LP.out.mono a2) (LQ.out.mono e2) FP.out FQ.out (by omega)).mono ?_
    rintro e w4 ⟨xq, kq, cq, q, xr, kr, cr, r, rfl, hresq, hresr, hv, hr0, hr1⟩
    rw [VP.out, VQ.out] at hv
    rw [VQ.out] at hr1
    have HV := hid hv; have HR0 := hid hr0; have HR1 := hid hr1; have HRS := hid hresr
    have HQ4 := hid (HQ3.out.below hresr.bel HQ3.out.lt)
    clear hv hr0 hr1 hresq hresr
    go_wp2
    go_ret2
    have hb4 := BE3.out.trans (HRS.out.bel.mono BE3.out.size)
    refine ⟨_, k2, c2, _, kr, cr, B, vf r kr, rfl, hb4.mono hbase, ⟨g2, ⟨Q, rfl, by omega, e2, e3, e4, HQ4.out, LQ.out, FQ.out, VQ.out⟩, HR0.out, by have := HR1.out; omega, ?_⟩, ?_, HR1.out, b1⟩
    · have hnc := HRS.out.ncap
      have z3 := BE3.out.size
      rcases HRS.out.own with ⟨rfl, rfl, rfl⟩ | ⟨gr, rfl, hgr, hk0, hkc, hcC, hbr⟩
      · exact .inl ⟨rfl, rfl, rfl, rfl⟩
      · exact .inr ⟨gr, by omega, r, rfl, hk0, hkc, by omega, by omega, hbr, HRS.out.lmc, HRS.out.fm, rfl⟩
    · have e : vf r kr = A - vf q kq * B := by have := HV.out; omega
      rw [e]
      exact (Cd.refl A B).step _
  · have hzb : (b0' != 0) = true := by simp [hz]
    rw [hzb]
    obtain ⟨hled, m0, m1, m2, m3⟩ := lh_some HL.out hz
    obtain ⟨n0, n1, n2, n3⟩ := lh_none HL.out
    have hl := hled T ra rb ra0 ra1 rb0 rb1
    rw [← HA.out, ← HB.out] at hl
    obtain ⟨l1, l2, l3, l4⟩ := hl
    have HC := hid l4
    clear l4 hled
    obtain ⟨U, hU⟩ : ∃ U, stU odd a0 b0' A B = U := ⟨_, rfl⟩
    obtain ⟨V, hV⟩ : ∃ V, stV odd a1' b1' A B = V := ⟨_, rfl⟩
    rw [hU, hV] at HC
    rw [hV] at l1 l2
    rw [hU] at l2 l3
    have CA := hid (apply_c g1 g2 c1 c2 k1 k2 P Q a0 b0' a1' b1' odd w3 HP3.out HQ3.out LP.out LQ.out hne a2 e2 hk21 (by omega) a3 e3 ⟨n0, by omega⟩ ⟨n1, by omega⟩ ⟨n2, by omega⟩ ⟨n3, by omega⟩ U V (by rw [VP.out, VQ.out]; exact hU) (by rw [VP.out, VQ.out]; exact hV) (by omega) (by have := BLT.out; omega) (by omega) (by have := BLT.out; omega))
    clear hU hV hz
    go_wp2_with fail
    refine CA.out.mono ?_
    rintro e w4 ⟨hon2, gp, gq, Np, Nq, t1', t2', d1, d2, P', Q', y1, y2, rfl, hside, hbp, hbq, lp, lq, hNp, hNq, hx1, hx2, hl1, hl2, fp, fq, vp, vq⟩
    have H1 := hid hside; have H2 := hid hbp; have H3 := hid hbq; have H4 := hid lp; have H5 := hid lq; have H6 := hid hx1; have H7 := hid hx2; have H8 := hid fp; have H9 := hid fq; have H10 := hid vp; have H11 := hid vq; have HON := hid hon2
    clear hside hbp hbq lp lq hx1 hx2 fp fq vp vq hon2 CA
    go_wp2
    go_ret2
    have z3 := BE3.out.size
    have hb4 : Below base w w4 := HON.out.below (BE3.out.mono hbase) a4 e4 (by omega)
    have hgp : base ≤ gp ∧ base ≤ gq ∧ gp ≠ gq := by rcases H1.out with ⟨rfl, rfl⟩ | ⟨rfl, rfl⟩ <;> omega
    refine ⟨y1, t1', d1, y2, t2', d2, U, V, rfl, hb4, ⟨gp, ?_, by omega, by omega, ?_⟩, HC.out, by omega, by omega⟩
    · rcases H6.out with ⟨_, hk0, _⟩ | ⟨h1, h2, h3⟩
      · have := H10.out
        rw [hk0] at this
        simp [vf] at this
        omega
      · exact ⟨P', h1, h2, by omega, by omega, hgp.1, by rw [h3]; exact H2.out, by rw [h3]; exact H4.out, H8.out, H10.out⟩
    · rcases H7.out with ⟨h1, h2, h3⟩ | ⟨h1, h2, h3⟩
      · left
        refine ⟨h1, h2, h3, ?_⟩
        rw [← H11.out, h2]; rfl
      · exact .inr ⟨gq, hgp.2.2, Q', h1, h2, by omega, by omega, hgp.2.1, by rw [h3]; exact H3.out, by rw [h3]; exact H5.out, H9.out, H11.out⟩
end Go.Proofs.YtlpmfmphglgocaaGreatDoor
namespace Go.Proofs.YtlpmfmphglgocaaGreatDoor
open Go.RowKit

/-- The number that a list in memory tells. -/
noncomputable def vOf (w : World) (v : Value) : Nat := match v with
  | .slice (some a) k _ => (vf (fun j => match w.cell? ⟨a.block, a.off + j, none⟩ with | some (.int _ z) => z | _ => 0) k).toNat
  | _ => 0
theorem One.vOf {base w x k c g A} (h : One base w x k c g A) : vOf w (.slice x k c) = A.toNat := by
  obtain ⟨P, rfl, h2, h3, h4, h5, h6, h7, h8, h9⟩ := h
  rw [← h9]
  show (vf _ k).toNat = _
  congr 1
  refine vf_congr (fun j hj => ?_)
  have := h6.cell (j := j) (by omega)
  simp only [Nat.zero_add]
  rw [this]
theorem Two.vOf {base w x1 k1 c1 x2 k2 c2 A B} (h : Two base w x1 k1 c1 x2 k2 c2 A B) : vOf w (.slice x2 k2 c2) = B.toNat := by
  obtain ⟨g1, h1, h2, h3, h4⟩ := h
  rcases h4 with ⟨rfl, rfl, rfl, rfl⟩ | ⟨g2, _, h5⟩
  · rfl
  · exact h5.vOf

set_option maxRecDepth 100000 in
set_option maxHeartbeats 4000000 in
theorem shorten_c (base : Nat) (x1 x2 : Option Addr) (k1 c1 k2 c2 K : Nat) (A B : Int) (w : World) (h : Two base w x1 k1 c1 x2 k2 c2 A B) (hAK : A < pw K) (hK : K ≤ 8796093022207) (hbase : base ≤ w.heap.size) :
    Calls Tryz.prog 128 #[.slice x1 k1 c1, .slice x2 k2 c2] w fun e w' => ∃ y1 l1 d1 y2 l2 d2 A' B', e = .returned (.tuple #[.slice y1 l1 d1, .slice y2 l2 d2]) ∧ Below base w w' ∧ Two base w' y1 l1 d1 y2 l2 d2 A' B' ∧ Cd A' B' A B ∧ l2 ≤ 1 ∧ A' ≤ A := by
  have HT := hid h; have HAK := hid hAK
  clear h hAK
  go_enter Tryz.func128, Tryz.ntmps128
  go_wp2
  go_loopw [0, 1] (fun u v wr => ∃ (y1 : Option Addr) (l1 d1 : Nat) (y2 : Option Addr) (l2 d2 : Nat) (A' B' : Int), u = .slice y1 l1 d1 ∧ v = .slice y2 l2 d2 ∧ Hid (Below base w wr) ∧ base ≤ wr.heap.size ∧ Hid (Two base wr y1 l1 d1 y2 l2 d2 A' B') ∧ Hid (Cd A' B' A B) ∧ Hid (A' ≤ A)) (fun _ v wr => vOf wr v)
  case atStart => exact ⟨x1, k1, c1, x2, k2, c2, A, B, rfl, rfl, Below.refl _ _, hbase, HT.out, Cd.refl _ _, Int.le_refl _⟩
  case round =>
    clear HT
    obtain ⟨y1, l1, d1, y2, l2, d2, A', B', rfl, rfl, HB, hbs, HT, HC, HA⟩ := hrel
    by_cases hl : 1 < l2
    · have hlb : decide ((1 : Int) < (l2 : Int)) = true := by simp; omega
      have CE := hid (euclid_c base y1 y2 l1 d1 l2 d2 K A' B' wr HT.out (by omega) (by have := HA.out; have := HAK.out; omega) hK hbs)
      go_wp2_with fail
      refine CE.out.mono ?_
      rintro e w2 ⟨z1, m1, f1, z2, m2, f2, A2, B2, rfl, hb2, ht2, hc2, hlt, hle⟩
      have H1 := hid (HB.out.trans hb2); have H2 := hid ht2; have H3 := hid (hc2.trans HC.out); have H4 := hid hlt; have H5 := hid (show A2 ≤ A by have := HA.out; omega)
      have hsz := hb2.size
      clear hb2 ht2 hc2 hlt hle CE
      go_wp2
      go_roundw
      case rel => exact ⟨z1, m1, f1, z2, m2, f2, A2, B2, rfl, rfl, H1.out, by omega, H2.out, H3.out, H5.out⟩
      case measure =>
        have e1 := H2.out.vOf
        have e2 := HT.out.vOf
        have h0 : 0 ≤ B2 := by obtain ⟨_, _, h, _⟩ := H2.out; exact h
        have hlt := H4.out
        show vOf w2 (.slice z2 m2 f2) < vOf wr (.slice y2 l2 d2)
        rw [e1, e2]; omega
    · have hlb : decide ((1 : Int) < (l2 : Int)) = false := by simp; omega
      go_wp2
      go_ret2
      exact ⟨y1, l1, d1, y2, l2, d2, A', B', rfl, HB.out, HT.out, HC.out, by omega, HA.out⟩
end Go.Proofs.YtlpmfmphglgocaaGreatDoor
namespace Go.Proofs.YtlpmfmphglgocaaGreatDoor
open Go.RowKit

theorem cd_gcd {u v A B : Int} (h : Cd u v A B) (u0 : 0 ≤ u) (v0 : 0 ≤ v) (A0 : 0 ≤ A) (B0 : 0 ≤ B) : Nat.gcd u.toNat v.toNat = Nat.gcd A.toNat B.toNat := by
  have key : ∀ {p q r s : Int}, Cd p q r s → 0 ≤ p → 0 ≤ q → 0 ≤ r → 0 ≤ s → Nat.gcd p.toNat q.toNat ∣ Nat.gcd r.toNat s.toNat := by
    intro p q r s h p0 q0 r0 s0
    have h1 : ((Nat.gcd p.toNat q.toNat : Nat) : Int) ∣ p := by
      have := Int.natCast_dvd_natCast.2 (Nat.gcd_dvd_left p.toNat q.toNat)
      rwa [Int.toNat_of_nonneg p0] at this
    have h2 : ((Nat.gcd p.toNat q.toNat : Nat) : Int) ∣ q := by
      have := Int.natCast_dvd_natCast.2 (Nat.gcd_dvd_right p.toNat q.toNat)
      rwa [Int.toNat_of_nonneg q0] at this
    obtain ⟨h3, h4⟩ := (h _).1 ⟨h1, h2⟩
    refine Nat.dvd_gcd ?_ ?_
    · apply Int.natCast_dvd_natCast.1; rwa [Int.toNat_of_nonneg r0]
    · apply Int.natCast_dvd_natCast.1; rwa [Int.toNat_of_nonneg s0]
  exact Nat.dvd_antisymm (key h u0 v0 A0 B0) (key (fun d => (h d).symm) A0 B0 u0 v0)

set_option maxRecDepth 100000 in
set_option maxHeartbeats 8000000 in
theorem gcd_c (ao bo : Option Addr) (n m ca cb : Nat) (f h : Nat → Int) (w : World) (hn : n ≤ 8796093022207) (hm : m ≤ 8796093022207) (hr : Rd .u64 w ao n f) (hs : Rd .u64 w bo m h) (hf : Lm f n) (hh : Lm h m) (ff : Fm f n) (fh : Fm h m) :
    Calls Tryz.prog 104 #[.slice ao n ca, .slice bo m cb] w fun e w' => ∃ ao' k cap' f', e = .returned (.slice ao' k cap') ∧ Res (max n m + 1) w w' ao' k cap' f' ∧ vf f' k = (Nat.gcd (vf f n).toNat (vf h m).toNat : Nat) := by
  have CC := hid (cmp_c ao bo n m ca cb f h w (by omega) (by omega) hr hs hf hh ff fh)
  have HRa := hid hr; have HRb := hid hs; have HLa := hid hf; have HLb := hid hh; have HFa := hid ff; have HFb := hid fh
  clear hr hs hf hh ff fh
  by_cases hlt : vf f n < vf h m
  · skip
    have HLt := hid hlt
    clear hlt
    rcases (show n = 0 ∨ n = 1 ∨ 2 ≤ n by omega) with hb0 | hb1 | hb2
    · have hBz : vf f n = 0 := by rw [hb0]; rfl
      have HBz := hid hBz
      subst hb0
      clear hBz
      go_enter Tryz.func104, Tryz.ntmps104
      go_wp2_with fail
      refine CC.out.mono ?_
      rintro e w1 ⟨⟨q, rfl⟩, c, rfl, ho⟩
      have hc : c = -1 := by have := HLt.out; unfold Ord at ho; omega
      subst hc
      clear ho
      go_wp2_with fail
      refine (clone_c bo m cb h _ (by omega) (show Rd .u64 (w.drewN q) bo m h from HRb.out) HLb.out).mono ?_
      rintro e w9 ⟨xr, kr, cr, rfl, hres, hkr, hv⟩
      have HRS := hid hres; have HVr := hid hv
      clear hres hv
      go_wp2
      go_ret
      refine ⟨xr, kr, cr, h, rfl, (HRS.out.ahead (below_drewN (Below.refl w.heap.size w) q)).mono (by omega), ?_⟩
      rw [HVr.out, show vf h m = vf h m from rfl]
      rw [show vf f 0 = 0 from rfl]; rw [Nat.gcd_comm]; simp [Int.toNat_of_nonneg (vf_nonneg HLb.out)]
    · subst hb1
      obtain ⟨bb, ob, rfl⟩ := HRa.out.at (by omega)
      obtain ⟨x, hx⟩ : ∃ x, f 0 = x := ⟨_, rfl⟩
      have hcell : w.cell? ⟨bb, ob, none⟩ = some (.int .u64 x) := by rw [← hx]; exact HRa.out.cell (j := 0) (by omega)
      have hx01 := HLa.out 0 (by omega)
      have hx2 : x ≠ 0 := by rw [← hx]; rcases HFa.out with h | h; omega; exact h
      rw [hx] at hx01
      obtain ⟨xn, rfl⟩ := Int.eq_ofNat_of_zero_le hx01.1
      have HVB := hid (show vf f 1 = (xn : Int) by simp [vf, pw, hx])
      clear hx
      go_enter Tryz.func104, Tryz.ntmps104
      go_wp2_with fail
      refine CC.out.mono ?_
      rintro e w1 ⟨⟨q, rfl⟩, c, rfl, ho⟩
      have hc : c = -1 := by have := HLt.out; unfold Ord at ho; omega
      subst hc
      clear ho
      have hA0 := vf_nonneg HLb.out
      obtain ⟨R, hR⟩ : ∃ R : Nat, (vf h m % (xn : Int)) = R := ⟨(vf h m % (xn : Int)).toNat, by have := Int.emod_nonneg (vf h m) (show (xn : Int) ≠ 0 by omega); omega⟩
      have hR1 : (R : Int) < xn := by rw [← hR]; exact Int.emod_lt_of_pos _ (by omega)
      have cm := fun W hr' => modWord_c bo m cb h xn W (by omega) hr' HLb.out (by omega) (by omega)
      rw [hR] at cm
      have cg := fun W => gcdWord_c xn R W (by omega) (by omega)
      have hgl : Nat.gcd xn R < 18446744073709551616 := Nat.lt_of_le_of_lt (Nat.gcd_le_left _ (by omega)) (by omega)
      have hfin : Nat.gcd xn R = Nat.gcd (vf h m).toNat xn := by
        have e : R = (vf h m).toNat % xn := by
          have : ((vf h m).toNat : Int) = vf h m := Int.toNat_of_nonneg hA0
          have h2 : (((vf h m).toNat % xn : Nat) : Int) = vf h m % (xn : Int) := by rw [Int.natCast_emod, this]
          omega
        rw [e, Nat.gcd_comm (vf h m).toNat xn, Nat.gcd_rec xn (vf h m).toNat, Nat.gcd_comm]
      generalize Nat.gcd xn R = G at *
      have CM := hid cm; have CG := hid cg; have HFin := hid hfin; have HRd := hid (show Rd .u64 (w.drewN q) bo m h from HRb.out)
      clear cm cg hfin hR hA0
      go_wp2
      go_region_with (first | (go_at_call 130; refine (CM.out _ (by exact HRd.out)).mono ?_; rintro e w' ⟨rfl, q1, rfl⟩) | (go_at_call 129; refine (CG.out _).mono ?_; rintro e w' ⟨rfl, q2, rfl⟩) | (go_at_call 108; refine (fromWord_c G _ (by omega) (by omega)).mono ?_; rintro e w' ⟨xr, kr, cr, fr, rfl, hres, hv'⟩))
      all_goals
        go_wp2
        go_ret
        refine ⟨xr, kr, cr, fr, rfl, (hres.ahead (by repeat (first | exact (below_drewN (Below.refl w.heap.size w) q) | exact Below.refl _ _ | refine below_drewN ?_ _ | refine Below.drew ?_))).mono (by omega), ?_⟩
        rw [hv', HFin.out, HVB.out]
        rw [Int.toNat_natCast, Nat.gcd_comm]
    · have CA := hid (fun W (hW : Rd .u64 W bo m h) => clone_c bo m cb h W (by omega) hW HLb.out)
      have CB := hid (fun W (hW : Rd .u64 W ao n f) => clone_c ao n ca f W (by omega) hW HLa.out)
      have d1 : decide ((1 : Int) < (n : Int)) = true := by simp; omega
      go_enter Tryz.func104, Tryz.ntmps104
      go_wp2_with fail
      refine CC.out.mono ?_
      rintro e w1 ⟨⟨q, rfl⟩, c, rfl, ho⟩
      have hc : c = -1 := by have := HLt.out; unfold Ord at ho; omega
      subst hc
      clear ho
      go_wp2_with fail
      refine (CA.out _ (by exact HRb.out)).mono ?_
      rintro e w2 ⟨xa', ka, ca', rfl, hresa, hka, hva⟩
      have hRb2 := HRa.out.below (show Below w.heap.size w w2 from ⟨hresa.bel.os, hresa.bel.tape, hresa.bel.output, hresa.bel.size, hresa.bel.block⟩) (Nat.le_refl _)
      have RESA := hid hresa; have HVa := hid hva; have HRb2 := hid hRb2
      clear hresa hva hRb2 CA
      go_wp2_with fail
      refine (CB.out _ HRb2.out).mono ?_
      rintro e w3 ⟨xb', kb, cb', rfl, hresb, hkb, hvb⟩
      have hTwo : Two w.heap.size w3 xa' ka ca' xb' kb cb' (vf h m) (vf f n) := by
        have hz : w.heap.size ≤ w2.heap.size := RESA.out.bel.size
        have hBp : 0 < vf f n := by have := vf_form_ge HLa.out HFa.out (by omega); have := pw_pos (n - 1); omega
        have hle : vf f n ≤ vf h m := by have := HLt.out; omega
        rcases RESA.out.own with ⟨_, h0, _⟩ | ⟨ga, e1, e2, e3, e4, e5, e6⟩
        · have := HVa.out; rw [h0] at this; simp [vf] at this; omega
        · rcases hresb.own with ⟨_, h0, _⟩ | ⟨gb, f1, f2, f3, f4, f5, f6⟩
          · rw [h0] at hvb; simp [vf] at hvb; omega
          · refine ⟨ga, ⟨h, e1, e3, e4, by omega, by simpa using e2, e6.below hresb.bel e6.lt, RESA.out.lmc, RESA.out.fm, HVa.out⟩, by omega, hle, .inr ⟨gb, ?_, f, f1, f3, f4, by omega, by omega, f6, hresb.lmc, hresb.fm, hvb⟩⟩
            have := e6.lt; omega
      have hb3 : Below w.heap.size w w3 := (show Below w.heap.size w w2 from ⟨RESA.out.bel.os, RESA.out.bel.tape, RESA.out.bel.output, RESA.out.bel.size, RESA.out.bel.block⟩).trans (hresb.bel.mono RESA.out.bel.size)
      have CS := hid (shorten_c w.heap.size xa' xb' ka ca' kb cb' m (vf h m) (vf f n) w3 hTwo (vf_lt HLb.out) (by omega) hb3.size)
      have BE3 := hid hb3
      clear hTwo hb3 hresb hvb RESA HVa HRb2 CB d1
      go_wp2_with fail
      refine CS.out.mono ?_
      rintro e w4 ⟨y1, l1, d1, y2, l2, d2, A', B', rfl, hb4, hT, hC, hl2, hA'⟩
      obtain ⟨g1, ⟨P, rfl, o1, o2, o3, o4, hbP, lP, fP, vP⟩, B0, BA, h2⟩ := hT
      have BE4 := hid (BE3.out.trans hb4)
      have HCd := hid hC
      have hl1 : l1 ≤ m := by
        have := vf_lt HLb.out
        exact mid_len (lP.mono o2) fP (by rw [vP]; omega)
      have HP := hid (hbP.rd0 o2); have LP := hid (lP.mono o2); have VP := hid vP
      clear hb4 hC hbP lP fP vP CS
      have hgc : Hid (Nat.gcd A'.toNat B'.toNat = Nat.gcd (vf h m).toNat (vf f n).toNat) := cd_gcd HCd.out (by omega) B0 (vf_nonneg HLb.out) (vf_nonneg HLa.out)
      rcases h2 with ⟨rfl, rfl, rfl, rfl⟩ | ⟨g2, hne, Q, rfl, u1, u2, u3, u4, hbQ, lQ, fQ, vQ⟩
      · have hA0 : 0 ≤ A' := by omega
        clear B0 BA
        go_wp2_with fail
        refine (clone_c (some ⟨g1, 0, none⟩) l1 d1 P _ (by omega) HP.out LP.out).mono ?_
        rintro e w9 ⟨xr, kr, cr, rfl, hres, hkr, hv⟩
        have HRS := hid hres; have HVr := hid hv
        clear hres hv
        go_wp2
        go_ret
        refine ⟨xr, kr, cr, P, rfl, (HRS.out.ahead BE4.out).mono (by omega), ?_⟩
        rw [HVr.out, VP.out]
        rw [Nat.gcd_comm]; rw [← hgc.out]; simp [Int.toNat_of_nonneg hA0]
      · obtain rfl : l2 = 1 := by omega
        obtain ⟨x, hx⟩ : ∃ x, Q 0 = x := ⟨_, rfl⟩
        have hcell : w4.cell? ⟨g2, 0, none⟩ = some (.int .u64 x) := by rw [← hx]; exact hbQ.cell (j := 0) (by omega)
        have hx01 := lQ 0 (by omega)
        have hx2 : x ≠ 0 := by rw [← hx]; rcases fQ with h | h; omega; exact h
        rw [hx] at hx01
        obtain ⟨xn, rfl⟩ := Int.eq_ofNat_of_zero_le hx01.1
        have hvB : B' = (xn : Int) := by rw [← vQ]; simp [vf, pw, hx]
        subst hvB
        clear hx hbQ lQ fQ vQ B0 BA
        have hA0 := vf_nonneg LP.out
        obtain ⟨R, hR⟩ : ∃ R : Nat, (vf P l1 % (xn : Int)) = R := ⟨(vf P l1 % (xn : Int)).toNat, by have := Int.emod_nonneg (vf P l1) (show (xn : Int) ≠ 0 by omega); omega⟩
        have hR1 : (R : Int) < xn := by rw [← hR]; exact Int.emod_lt_of_pos _ (by omega)
        have cm := fun W hr' => modWord_c (some ⟨g1, 0, none⟩) l1 d1 P xn W (by omega) hr' LP.out (by omega) (by omega)
        rw [hR] at cm
        have cg := fun W => gcdWord_c xn R W (by omega) (by omega)
        have hgl : Nat.gcd xn R < 18446744073709551616 := Nat.lt_of_le_of_lt (Nat.gcd_le_left _ (by omega)) (by omega)
        have hfin : Nat.gcd xn R = Nat.gcd (vf P l1).toNat xn := by
          have e : R = (vf P l1).toNat % xn := by
            have : ((vf P l1).toNat : Int) = vf P l1 := Int.toNat_of_nonneg hA0
            have h2 : (((vf P l1).toNat % xn : Nat) : Int) = vf P l1 % (xn : Int) := by rw [Int.natCast_emod, this]
            omega
          rw [e, Nat.gcd_comm (vf P l1).toNat xn, Nat.gcd_rec xn (vf P l1).toNat, Nat.gcd_comm]
        generalize Nat.gcd xn R = G at *
        have CM := hid cm; have CG := hid cg; have HFin := hid hfin; have HRd := hid HP.out
        clear cm cg hfin hR hA0
        go_wp2
        go_region_with (first | (go_at_call 130; refine (CM.out _ (by exact HRd.out)).mono ?_; rintro e w' ⟨rfl, q1, rfl⟩) | (go_at_call 129; refine (CG.out _).mono ?_; rintro e w' ⟨rfl, q2, rfl⟩) | (go_at_call 108; refine (fromWord_c G _ (by omega) (by omega)).mono ?_; rintro e w' ⟨xr, kr, cr, fr, rfl, hres, hv'⟩))
        all_goals
          go_wp2
          go_ret
          refine ⟨xr, kr, cr, fr, rfl, (hres.ahead (by repeat (first | exact BE4.out | exact Below.refl _ _ | refine below_drewN ?_ _ | refine Below.drew ?_))).mono (by omega), ?_⟩
          rw [hv', HFin.out, VP.out]
          rw [Nat.gcd_comm (vf f n).toNat, ← hgc.out, Int.toNat_natCast]
  · skip
    have HLt := hid hlt
    clear hlt
    rcases (show m = 0 ∨ m = 1 ∨ 2 ≤ m by omega) with hb0 | hb1 | hb2
    · have hBz : vf h m = 0 := by rw [hb0]; rfl
      have HBz := hid hBz
      subst hb0
      clear hBz
      go_enter Tryz.func104, Tryz.ntmps104
      go_wp2_with fail
      refine CC.out.mono ?_
      rintro e w1 ⟨⟨q, rfl⟩, c, rfl, ho⟩
      have hc : 0 ≤ c := by have := HLt.out; unfold Ord at ho; omega
      clear ho
      go_wp2_with fail
      refine (clone_c ao n ca f _ (by omega) (show Rd .u64 (w.drewN q) ao n f from HRa.out) HLa.out).mono ?_
      rintro e w9 ⟨xr, kr, cr, rfl, hres, hkr, hv⟩
      have HRS := hid hres; have HVr := hid hv
      clear hres hv
      go_wp2
      go_ret
      refine ⟨xr, kr, cr, f, rfl, (HRS.out.ahead (below_drewN (Below.refl w.heap.size w) q)).mono (by omega), ?_⟩
      rw [HVr.out, show vf f n = vf f n from rfl]
      rw [show vf h 0 = 0 from rfl]; simp [Int.toNat_of_nonneg (vf_nonneg HLa.out)]
    · subst hb1
      obtain ⟨bb, ob, rfl⟩ := HRb.out.at (by omega)
      obtain ⟨x, hx⟩ : ∃ x, h 0 = x := ⟨_, rfl⟩
      have hcell : w.cell? ⟨bb, ob, none⟩ = some (.int .u64 x) := by rw [← hx]; exact HRb.out.cell (j := 0) (by omega)
      have hx01 := HLb.out 0 (by omega)
      have hx2 : x ≠ 0 := by rw [← hx]; rcases HFb.out with h | h; omega; exact h
      rw [hx] at hx01
      obtain ⟨xn, rfl⟩ := Int.eq_ofNat_of_zero_le hx01.1
      have HVB := hid (show vf h 1 = (xn : Int) by simp [vf, pw, hx])
      clear hx
      go_enter Tryz.func104, Tryz.ntmps104
      go_wp2_with fail
      refine CC.out.mono ?_
      rintro e w1 ⟨⟨q, rfl⟩, c, rfl, ho⟩
      have hc : 0 ≤ c := by have := HLt.out; unfold Ord at ho; omega
      clear ho
      have hA0 := vf_nonneg HLa.out
      obtain ⟨R, hR⟩ : ∃ R : Nat, (vf f n % (xn : Int)) = R := ⟨(vf f n % (xn : Int)).toNat, by have := Int.emod_nonneg (vf f n) (show (xn : Int) ≠ 0 by omega); omega⟩
      have hR1 : (R : Int) < xn := by rw [← hR]; exact Int.emod_lt_of_pos _ (by omega)
      have cm := fun W hr' => modWord_c ao n ca f xn W (by omega) hr' HLa.out (by omega) (by omega)
      rw [hR] at cm
      have cg := fun W => gcdWord_c xn R W (by omega) (by omega)
      have hgl : Nat.gcd xn R < 18446744073709551616 := Nat.lt_of_le_of_lt (Nat.gcd_le_left _ (by omega)) (by omega)
      have hfin : Nat.gcd xn R = Nat.gcd (vf f n).toNat xn := by
        have e : R = (vf f n).toNat % xn := by
          have : ((vf f n).toNat : Int) = vf f n := Int.toNat_of_nonneg hA0
          have h2 : (((vf f n).toNat % xn : Nat) : Int) = vf f n % (xn : Int) := by rw [Int.natCast_emod, this]
          omega
        rw [e, Nat.gcd_comm (vf f n).toNat xn, Nat.gcd_rec xn (vf f n).toNat, Nat.gcd_comm]
      generalize Nat.gcd xn R = G at *
      have CM := hid cm; have CG := hid cg; have HFin := hid hfin; have HRd := hid (show Rd .u64 (w.drewN q) ao n f from HRa.out)
      clear cm cg hfin hR hA0
      go_wp2
      go_region_with (first | (go_at_call 130; refine (CM.out _ (by exact HRd.out)).mono ?_; rintro e w' ⟨rfl, q1, rfl⟩) | (go_at_call 129; refine (CG.out _).mono ?_; rintro e w' ⟨rfl, q2, rfl⟩) | (go_at_call 108; refine (fromWord_c G _ (by omega) (by omega)).mono ?_; rintro e w' ⟨xr, kr, cr, fr, rfl, hres, hv'⟩))
      all_goals
        go_wp2
        go_ret
        refine ⟨xr, kr, cr, fr, rfl, (hres.ahead (by repeat (first | exact (below_drewN (Below.refl w.heap.size w) q) | exact Below.refl _ _ | refine below_drewN ?_ _ | refine Below.drew ?_))).mono (by omega), ?_⟩
        rw [hv', HFin.out, HVB.out]
        rw [Int.toNat_natCast]
    · have CA := hid (fun W (hW : Rd .u64 W ao n f) => clone_c ao n ca f W (by omega) hW HLa.out)
      have CB := hid (fun W (hW : Rd .u64 W bo m h) => clone_c bo m cb h W (by omega) hW HLb.out)
      have d1 : decide ((1 : Int) < (m : Int)) = true := by simp; omega
      go_enter Tryz.func104, Tryz.ntmps104
      go_wp2_with fail
      refine CC.out.mono ?_
      rintro e w1 ⟨⟨q, rfl⟩, c, rfl, ho⟩
      have hc : 0 ≤ c := by have := HLt.out; unfold Ord at ho; omega
      clear ho
      go_wp2_with fail
      refine (CA.out _ (by exact HRa.out)).mono ?_
      rintro e w2 ⟨xa', ka, ca', rfl, hresa, hka, hva⟩
      have hRb2 := HRb.out.below (show Below w.heap.size w w2 from ⟨hresa.bel.os, hresa.bel.tape, hresa.bel.output, hresa.bel.size, hresa.bel.block⟩) (Nat.le_refl _)
      have RESA := hid hresa; have HVa := hid hva; have HRb2 := hid hRb2
      clear hresa hva hRb2 CA
      go_wp2_with fail
      refine (CB.out _ HRb2.out).mono ?_
      rintro e w3 ⟨xb', kb, cb', rfl, hresb, hkb, hvb⟩
      have hTwo : Two w.heap.size w3 xa' ka ca' xb' kb cb' (vf f n) (vf h m) := by
        have hz : w.heap.size ≤ w2.heap.size := RESA.out.bel.size
        have hBp : 0 < vf h m := by have := vf_form_ge HLb.out HFb.out (by omega); have := pw_pos (m - 1); omega
        have hle : vf h m ≤ vf f n := by have := HLt.out; omega
        rcases RESA.out.own with ⟨_, h0, _⟩ | ⟨ga, e1, e2, e3, e4, e5, e6⟩
        · have := HVa.out; rw [h0] at this; simp [vf] at this; omega
        · rcases hresb.own with ⟨_, h0, _⟩ | ⟨gb, f1, f2, f3, f4, f5, f6⟩
          · rw [h0] at hvb; simp [vf] at hvb; omega
          · refine ⟨ga, ⟨f, e1, e3, e4, by omega, by simpa using e2, e6.below hresb.bel e6.lt, RESA.out.lmc, RESA.out.fm, HVa.out⟩, by omega, hle, .inr ⟨gb, ?_, h, f1, f3, f4, by omega, by omega, f6, hresb.lmc, hresb.fm, hvb⟩⟩
            have := e6.lt; omega
      have hb3 : Below w.heap.size w w3 := (show Below w.heap.size w w2 from ⟨RESA.out.bel.os, RESA.out.bel.tape, RESA.out.bel.output, RESA.out.bel.size, RESA.out.bel.block⟩).trans (hresb.bel.mono RESA.out.bel.size)
      have CS := hid (shorten_c w.heap.size xa' xb' ka ca' kb cb' n (vf f n) (vf h m) w3 hTwo (vf_lt HLa.out) (by omega) hb3.size)
      have BE3 := hid hb3
      clear hTwo hb3 hresb hvb RESA HVa HRb2 CB d1
      go_wp2_with fail
      refine CS.out.mono ?_
      rintro e w4 ⟨y1, l1, d1, y2, l2, d2, A', B', rfl, hb4, hT, hC, hl2, hA'⟩
      obtain ⟨g1, ⟨P, rfl, o1, o2, o3, o4, hbP, lP, fP, vP⟩, B0, BA, h2⟩ := hT
      have BE4 := hid (BE3.out.trans hb4)
      have HCd := hid hC
      have hl1 : l1 ≤ n := by
        have := vf_lt HLa.out
        exact mid_len (lP.mono o2) fP (by rw [vP]; omega)
      have HP := hid (hbP.rd0 o2); have LP := hid (lP.mono o2); have VP := hid vP
      clear hb4 hC hbP lP fP vP CS
      have hgc : Hid (Nat.gcd A'.toNat B'.toNat = Nat.gcd (vf f n).toNat (vf h m).toNat) := cd_gcd HCd.out (by omega) B0 (vf_nonneg HLa.out) (vf_nonneg HLb.out)
      rcases h2 with ⟨rfl, rfl, rfl, rfl⟩ | ⟨g2, hne, Q, rfl, u1, u2, u3, u4, hbQ, lQ, fQ, vQ⟩
      · have hA0 : 0 ≤ A' := by omega
        clear B0 BA
        go_wp2_with fail
        refine (clone_c (some ⟨g1, 0, none⟩) l1 d1 P _ (by omega) HP.out LP.out).mono ?_
        rintro e w9 ⟨xr, kr, cr, rfl, hres, hkr, hv⟩
        have HRS := hid hres; have HVr := hid hv
        clear hres hv
        go_wp2
        go_ret
        refine ⟨xr, kr, cr, P, rfl, (HRS.out.ahead BE4.out).mono (by omega), ?_⟩
        rw [HVr.out, VP.out]
        rw [← hgc.out]; simp [Int.toNat_of_nonneg hA0]
      · obtain rfl : l2 = 1 := by omega
        obtain ⟨x, hx⟩ : ∃ x, Q 0 = x := ⟨_, rfl⟩
        have hcell : w4.cell? ⟨g2, 0, none⟩ = some (.int .u64 x) := by rw [← hx]; exact hbQ.cell (j := 0) (by omega)
        have hx01 := lQ 0 (by omega)
        have hx2 : x ≠ 0 := by rw [← hx]; rcases fQ with h | h; omega; exact h
        rw [hx] at hx01
        obtain ⟨xn, rfl⟩ := Int.eq_ofNat_of_zero_le hx01.1
        have hvB : B' = (xn : Int) := by rw [← vQ]; simp [vf, pw, hx]
        subst hvB
        clear hx hbQ lQ fQ vQ B0 BA
        have hA0 := vf_nonneg LP.out
        obtain ⟨R, hR⟩ : ∃ R : Nat, (vf P l1 % (xn : Int)) = R := ⟨(vf P l1 % (xn : Int)).toNat, by have := Int.emod_nonneg (vf P l1) (show (xn : Int) ≠ 0 by omega); omega⟩
        have hR1 : (R : Int) < xn := by rw [← hR]; exact Int.emod_lt_of_pos _ (by omega)
        have cm := fun W hr' => modWord_c (some ⟨g1, 0, none⟩) l1 d1 P xn W (by omega) hr' LP.out (by omega) (by omega)
        rw [hR] at cm
        have cg := fun W => gcdWord_c xn R W (by omega) (by omega)
        have hgl : Nat.gcd xn R < 18446744073709551616 := Nat.lt_of_le_of_lt (Nat.gcd_le_left _ (by omega)) (by omega)
        have hfin : Nat.gcd xn R = Nat.gcd (vf P l1).toNat xn := by
          have e : R = (vf P l1).toNat % xn := by
            have : ((vf P l1).toNat : Int) = vf P l1 := Int.toNat_of_nonneg hA0
            have h2 : (((vf P l1).toNat % xn : Nat) : Int) = vf P l1 % (xn : Int) := by rw [Int.natCast_emod, this]
            omega
          rw [e, Nat.gcd_comm (vf P l1).toNat xn, Nat.gcd_rec xn (vf P l1).toNat, Nat.gcd_comm]
        generalize Nat.gcd xn R = G at *
        have CM := hid cm; have CG := hid cg; have HFin := hid hfin; have HRd := hid HP.out
        clear cm cg hfin hR hA0
        go_wp2
        go_region_with (first | (go_at_call 130; refine (CM.out _ (by exact HRd.out)).mono ?_; rintro e w' ⟨rfl, q1, rfl⟩) | (go_at_call 129; refine (CG.out _).mono ?_; rintro e w' ⟨rfl, q2, rfl⟩) | (go_at_call 108; refine (fromWord_c G _ (by omega) (by omega)).mono ?_; rintro e w' ⟨xr, kr, cr, fr, rfl, hres, hv'⟩))
        all_goals
          go_wp2
          go_ret
          refine ⟨xr, kr, cr, fr, rfl, (hres.ahead (by repeat (first | exact BE4.out | exact Below.refl _ _ | refine below_drewN ?_ _ | refine Below.drew ?_))).mono (by omega), ?_⟩
          rw [hv', HFin.out, VP.out]
          rw [← hgc.out, Int.toNat_natCast]
end Go.Proofs.YtlpmfmphglgocaaGreatDoor
namespace Go.Proofs.YtlpmfmphglgocaaGreatDoor
open Go.RowKit

set_option maxHeartbeats 800000 in
theorem Gcd_c (ao bo : Option Addr) (n m ca cb : Nat) (f h : Nat → Int) (w : World) (hn : n ≤ 8796093022207) (hm : m ≤ 8796093022207) (hr : Rd .u64 w ao n f) (hs : Rd .u64 w bo m h) (hf : Lm f n) (hh : Lm h m) :
    Calls Tryz.prog 82 #[.slice ao n ca, .slice bo m cb] w fun e w' => ∃ ao' k cap' f' er, e = .returned (.tuple #[.slice ao' k cap', .int .i64 er]) ∧ Res (max n m + 1) w w' ao' k cap' f' ∧
      (Fm f n ∧ Fm h m ∧ er = 0 ∧ vf f' k = (Nat.gcd (vf f n).toNat (vf h m).toNat : Nat) ∨ ¬ (Fm f n ∧ Fm h m) ∧ er = 3 ∧ k = 0) := by
  have HF := (show Hid (Lm f n) from hf)
  have HH := (show Hid (Lm h m) from hh)
  clear hf hh
  cases hfa : fmB f n
  · have c1 := fun w' hr' => form_c ao n ca f w' (by omega) hr'
    rw [hfa] at c1
    have HN := hid (nfm_of hfa)
    have C1 := hid c1
    clear c1 hfa
    go_enter Tryz.func82, Tryz.ntmps82
    go_wp2_with (go_at_call 67; refine (C1.out _ hr).mono ?_; rintro e w' ⟨rfl, rfl⟩)
    go_ret2
    exact ⟨_, _, _, f, _, rfl, Res.nil f (Below.refl _ _), .inr ⟨fun x => HN.out x.1, rfl, rfl⟩⟩
  · have c1 := fun w' hr' => form_c ao n ca f w' (by omega) hr'
    rw [hfa] at c1
    have FA := hid (fm_of hfa)
    have C1 := hid c1
    clear c1 hfa
    cases hfb : fmB h m
    · have c2 := fun w' hr' => form_c bo m cb h w' (by omega) hr'
      rw [hfb] at c2
      have HN := hid (nfm_of hfb)
      have C2 := hid c2
      clear c2 hfb
      go_enter Tryz.func82, Tryz.ntmps82
      go_wp2_with fail
      refine (C1.out _ hr).mono ?_
      rintro e w' ⟨rfl, rfl⟩
      go_wp2_with fail
      refine (C2.out _ hs).mono ?_
      rintro e w' ⟨rfl, rfl⟩
      go_wp2
      go_ret2
      exact ⟨_, _, _, f, _, rfl, Res.nil f (Below.refl _ _), .inr ⟨fun x => HN.out x.2, rfl, rfl⟩⟩
    · have c2 := fun w' hr' => form_c bo m cb h w' (by omega) hr'
      rw [hfb] at c2
      have FB := hid (fm_of hfb)
      have C2 := hid c2
      clear c2 hfb
      go_enter Tryz.func82, Tryz.ntmps82
      go_wp2_with fail
      refine (C1.out _ hr).mono ?_
      rintro e w' ⟨rfl, rfl⟩
      go_wp2_with fail
      refine (C2.out _ hs).mono ?_
      rintro e w' ⟨rfl, rfl⟩
      go_wp2_with fail
      refine (gcd_c ao bo n m ca cb f h _ hn hm hr hs HF.out HH.out FA.out FB.out).mono ?_
      rintro e w' ⟨ao', k, cap', f', rfl, hres, hv⟩
      have HV := hid hv
      clear hv
      go_wp2
      go_ret2
      exact ⟨_, _, _, f', _, rfl, hres, .inl ⟨FA.out, FB.out, rfl, HV.out⟩⟩
end Go.Proofs.YtlpmfmphglgocaaGreatDoor

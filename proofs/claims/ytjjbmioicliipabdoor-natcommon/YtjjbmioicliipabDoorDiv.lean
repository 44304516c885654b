/-
  math/bits.Div64: quotient and rest of a number of two limbs by a limb.
-/
import Derived.Test.YtjjbmioicliipabDoorShelf
import Derived.Test.YtjjbmioicliipabDoorW1
namespace Go.Proofs.YtjjbmioicliipabDoor
open Go.RowKit

/-- One digit of a quotient, guessed: the guess and what is left of the divisor's high half. -/
structure Gs (U u1 Y y1 y0 q r : Int) : Prop where
  q0 : 0 ≤ q
  r0 : 0 ≤ r
  eq : U = q * y1 + r
  up : U * 4294967296 + u1 < (q + 1) * Y
theorem gs_start {U u1 Y y1 y0 : Int} (hU0 : 0 ≤ U) (hY : Y = y1 * 4294967296 + y0) (h1 : 0 < y1) (h0 : 0 ≤ y0) (k1 : u1 < 4294967296) : Gs U u1 Y y1 y0 (U / y1) (U - U / y1 * y1) := by
  have a := Int.emod_nonneg U (Int.ne_of_gt h1)
  have b := Int.emod_lt_of_pos U h1
  have c := Int.mul_ediv_add_emod U y1
  have d : U / y1 * y1 = y1 * (U / y1) := Int.mul_comm _ _
  have e : 0 ≤ U / y1 := Int.ediv_nonneg hU0 (Int.le_of_lt h1)
  have f : 0 ≤ (U / y1 + 1) * y0 := Int.mul_nonneg (by omega) h0
  have g : (U / y1 + 1) * Y = y1 * (U / y1) * 4294967296 + y1 * 4294967296 + (U / y1 + 1) * y0 := by rw [hY]; grind
  refine ⟨e, by omega, by omega, ?_⟩
  rw [g]; omega
theorem gs_q {U u1 Y y1 y0 q r : Int} (h : Gs U u1 Y y1 y0 q r) (hU : U < Y) (hY : Y = y1 * 4294967296 + y0) (h1 : 2147483648 ≤ y1) (h2 : y0 < 4294967296) : q ≤ 4294967297 := by
  apply Int.le_of_lt_add_one
  have := h.eq; have := h.r0
  have h3 : q * y1 < (4294967297 + 1) * y1 := by omega
  exact Int.lt_of_mul_lt_mul_right h3 (by omega)
theorem gs_pos {U u1 Y q : Int} (hT : 0 ≤ U * 4294967296 + u1) (hc : U * 4294967296 + u1 < q * Y) (hY : 0 < Y) : 0 < q := by
  apply Int.lt_of_not_ge
  intro h
  have : q * Y ≤ 0 * Y := Int.mul_le_mul_of_nonneg_right h (Int.le_of_lt hY)
  omega
theorem gs_big {U u1 Y q : Int} (hU : U < Y) (k1 : u1 < 4294967296) (hY : 0 < Y) (hq : 4294967296 ≤ q) : U * 4294967296 + u1 < q * Y := by
  have : 4294967296 * Y ≤ q * Y := Int.mul_le_mul_of_nonneg_right hq (Int.le_of_lt hY)
  omega
theorem gs_mul {U u1 Y y1 y0 q r : Int} (h : Gs U u1 Y y1 y0 q r) (hY : Y = y1 * 4294967296 + y0) : q * Y = (U - r) * 4294967296 + q * y0 := by
  have := h.eq
  rw [hY, Int.mul_add, ← Int.mul_assoc]
  have : q * y1 = U - r := by omega
  rw [this]
theorem gs_step {U u1 Y y1 y0 q r : Int} (h : Gs U u1 Y y1 y0 q r) (hc : U * 4294967296 + u1 < q * Y) (hq : 0 < q) (h1 : 0 ≤ y1) : Gs U u1 Y y1 y0 (q - 1) (r + y1) := by
  have := h.eq; have := h.r0
  refine ⟨by omega, by omega, ?_, ?_⟩
  · rw [Int.sub_mul]; omega
  · have e : q - 1 + 1 = q := by omega
    rw [e]; exact hc

theorem gs_low {U u1 Y y1 y0 q r : Int} (h : Gs U u1 Y y1 y0 q r) (hY : Y = y1 * 4294967296 + y0) (hc : q * y0 ≤ 4294967296 * r + u1) : q * Y ≤ U * 4294967296 + u1 := by
  rw [gs_mul h hY]; omega
theorem gs_brk {U u1 Y y1 y0 q r : Int} (h : Gs U u1 Y y1 y0 q r) (hY : Y = y1 * 4294967296 + y0) (hq : q ≤ 4294967296) (hr : 4294967296 ≤ r) (h0 : 0 ≤ y0) (h1 : y0 < 4294967296) (k0 : 0 ≤ u1) : q * Y ≤ U * 4294967296 + u1 := by
  refine gs_low h hY ?_
  have : q * y0 ≤ 4294967296 * y0 := Int.mul_le_mul_of_nonneg_right hq h0
  omega
theorem gs_rest (U u1 Y t : Int) (h1 : t * Y ≤ U * 4294967296 + u1) (h2 : U * 4294967296 + u1 < (t + 1) * Y) (hY : Y ≤ 18446744073709551616) :
    IntKind.u64.wrap (IntKind.u64.wrap (IntKind.u64.wrap (U * 4294967296) + u1) - IntKind.u64.wrap (t * Y)) = U * 4294967296 + u1 - t * Y ∧ 0 ≤ U * 4294967296 + u1 - t * Y ∧ U * 4294967296 + u1 - t * Y < Y := by
  rw [Int.add_mul, Int.one_mul] at h2
  refine ⟨?_, by omega, by omega⟩
  simp only [IntKind.wrap_u64]
  generalize t * Y = X at *
  omega
theorem gs_t {U u1 Y t : Int} (h1 : t * Y ≤ U * 4294967296 + u1) (hU : U < Y) (k1 : u1 < 4294967296) (hY : 0 < Y) : t < 4294967296 := by
  have : t * Y < 4294967296 * Y := by omega
  exact Int.lt_of_mul_lt_mul_right this (Int.le_of_lt hY)

set_option maxRecDepth 100000 in
set_option maxHeartbeats 4000000 in
theorem div64_core (hi lo y s Y y1 y0 U L u1 u0 : Int) (w : World) (h0 : 0 < hi) (h1 : hi < y) (_hy : y < 18446744073709551616) (_l0 : 0 ≤ lo) (_l1 : lo < 18446744073709551616) (s0 : 0 ≤ s) (s1 : s ≤ 63)
    (hs : Calls Tryd.prog 46 #[.int .u64 y] w fun e w' => e = .returned (.int .i64 s) ∧ w' = w)
    (hY : IntKind.u64.wrap (y * 2 ^ s.toNat) = Y) (hY1 : Y / 4294967296 = y1) (hY0 : bits BinOp.and .u64 Y 4294967295 = y0)
    (hU : bits BinOp.or .u64 (IntKind.u64.wrap (hi * 2 ^ s.toNat)) (lo / 2 ^ (64 - s).toNat) = U) (hL : IntKind.u64.wrap (lo * 2 ^ s.toNat) = L) (hL1 : L / 4294967296 = u1) (hL0 : bits BinOp.and .u64 L 4294967295 = u0)
    (y1a : 2147483648 ≤ y1) (y1b : y1 < 4294967296) (y0a : 0 ≤ y0) (y0b : y0 < 4294967296) (u1a : 0 ≤ u1) (u1b : u1 < 4294967296) (u0a : 0 ≤ u0) (u0b : u0 < 4294967296) (Ua : 0 ≤ U) (Ub : U < y1 * 4294967296 + y0) (hYY : Hid (Y = y1 * 4294967296 + y0)) :
    Calls Tryd.prog 45 #[.int .u64 hi, .int .u64 lo, .int .u64 y] w fun e w' => w' = w ∧ ∃ q1 q0 R, e = .returned (.tuple #[.int .u64 (q1 * 4294967296 + q0), .int .u64 (R / 2 ^ s.toNat)]) ∧ 0 ≤ R ∧ R < Y ∧ 0 ≤ q1 ∧ q1 < 4294967296 ∧ 0 ≤ q0 ∧ q0 < 4294967296 ∧ (U * 4294967296 + u1) * 4294967296 + u0 = (q1 * 4294967296 + q0) * Y + R := by
  have HS := hid hs
  clear hs
  obtain ⟨q, hq⟩ : ∃ q, U / y1 = q := ⟨_, rfl⟩
  obtain ⟨p, hp⟩ : ∃ p, q * y1 = p := ⟨_, rfl⟩
  have g := gs_start Ua hYY.out (by omega) y0a u1b
  rw [hq, hp] at g
  have hq0 := g.q0
  have hr0 := g.r0
  have hqb := gs_q g (by rw [hYY.out]; exact Ub) hYY.out y1a y0b
  have hr1 : U - p < y1 := by
    have := Int.emod_lt_of_pos U (show 0 < y1 by omega); have := Int.mul_ediv_add_emod U y1
    rw [hq, Int.mul_comm, hp] at this; omega
  have hpa : 0 ≤ p := by rw [← hp]; exact Int.mul_nonneg hq0 (by omega)
  have G := hid g
  clear g
  have hyh : decide (y ≤ hi) = false := by simp; omega
  have YP : Hid (0 < Y) := by show _ < _; rw [hYY.out]; omega
  have hr2 : U - p < 4294967296 := by omega
  go_enter Tryd.func45, Tryd.ntmps45
  go_wp2_with fail
  refine HS.out.mono ?_
  rintro e w1 ⟨rfl, rfl⟩
  go_wp2
  go_loop [15, 16] (fun c d => ∃ q r : Int, c = .int .u64 q ∧ d = .int .u64 r ∧ 0 ≤ q ∧ q ≤ 4294967297 ∧ 0 ≤ r ∧ r < 4294967296 ∧ Hid (Gs U u1 Y y1 y0 q r)) (fun c _ => (intOf c).toNat)
  case atStart => exact ⟨U / y1, U - p, rfl, rfl, by rw [hq]; exact hq0, by rw [hq]; exact hqb, hr0, hr2, by rw [hq]; exact G.out⟩
  case round =>
    clear G hr0 hr1 hr2 hpa hqb hq0 hp hq
    obtain ⟨q, r, rfl, rfl, q0a, q0b, r0a, r0b, G⟩ := hrel
    by_cases hbig : 4294967296 ≤ q
    · have hc := gs_big (q := q) (by rw [hYY.out]; exact Ub) u1b YP.out hbig
      have G1 := hid (gs_step G.out hc (by omega) (by omega))
      clear hc
      by_cases hbr1 : 4294967296 ≤ r + y1
      · obtain ⟨t, rfl⟩ : ∃ t, q = t + 1 := ⟨q - 1, by omega⟩
        rw [show t + 1 - 1 = t by omega] at G1
        have L1 := hid (gs_brk G1.out hYY.out (by omega) hbr1 y0a y0b u1a)
        obtain ⟨V, hV, hVa, hVb, HVd⟩ : ∃ V, IntKind.u64.wrap (IntKind.u64.wrap (IntKind.u64.wrap (U * 4294967296) + u1) - IntKind.u64.wrap (t * Y)) = V ∧ 0 ≤ V ∧ V < Y ∧ Hid (V = U * 4294967296 + u1 - t * Y) := ⟨_, (gs_rest U u1 Y (t) L1.out G1.out.up (by rw [hYY.out]; omega)).1, (gs_rest U u1 Y (t) L1.out G1.out.up (by rw [hYY.out]; omega)).2.1, (gs_rest U u1 Y (t) L1.out G1.out.up (by rw [hYY.out]; omega)).2.2, rfl⟩
        have ht1 : t < 4294967296 := gs_t L1.out (by rw [hYY.out]; exact Ub) u1b YP.out
        have HVb := hid hVb
        rw [hYY.out] at hVb
        obtain ⟨k, hk⟩ : ∃ k, V / y1 = k := ⟨_, rfl⟩
        obtain ⟨p2, hp2⟩ : ∃ p2, k * y1 = p2 := ⟨_, rfl⟩
        have g := gs_start hVa hYY.out (by omega) y0a u0b
        rw [hk, hp2] at g
        have hk0 := g.q0
        have hr0 := g.r0
        have hkb := gs_q g HVb.out hYY.out y1a y0b
        have hr1 : V - p2 < y1 := by
          have := Int.emod_lt_of_pos V (show 0 < y1 by omega); have := Int.mul_ediv_add_emod V y1
          rw [hk, Int.mul_comm, hp2] at this; omega
        have hp2a : 0 ≤ p2 := by rw [← hp2]; exact Int.mul_nonneg hk0 (by omega)
        have hr2 : V - p2 < 4294967296 := by omega
        have GG := hid g
        clear g L1 G1
        go_wp2
        go_loop [16, 18] (fun d c => ∃ q r : Int, c = .int .u64 q ∧ d = .int .u64 r ∧ 0 ≤ q ∧ q ≤ 4294967297 ∧ 0 ≤ r ∧ r < 4294967296 ∧ Hid (Gs V u0 Y y1 y0 q r)) (fun _ c => (intOf c).toNat)
        case atStart => exact ⟨k, V - p2, rfl, rfl, hk0, hkb, hr0, hr2, GG.out⟩
        case round =>
          clear GG hr0 hr1 hr2 hp2a hkb hk0 hp2 hk
          obtain ⟨m, r2, rfl, rfl, m0a, m0b, r20a, r20b, G0⟩ := hrel
          by_cases hbig2 : 4294967296 ≤ m
          · have hc := gs_big (q := m) HVb.out u0b YP.out hbig2
            have G2 := hid (gs_step G0.out hc (by omega) (by omega))
            clear hc
            by_cases hbr : 4294967296 ≤ r2 + y1
            · obtain ⟨t2, rfl⟩ : ∃ t2, m = t2 + 1 := ⟨m - 1, by omega⟩
              rw [show t2 + 1 - 1 = t2 by omega] at G2
              have L2 := hid (gs_brk G2.out hYY.out (by omega) hbr y0a y0b u0a)
              obtain ⟨R, hR, hRa, hRb, HRd⟩ : ∃ R, IntKind.u64.wrap (IntKind.u64.wrap (IntKind.u64.wrap (V * 4294967296) + u0) - IntKind.u64.wrap (t2 * Y)) = R ∧ 0 ≤ R ∧ R < Y ∧ Hid (R = V * 4294967296 + u0 - t2 * Y) := ⟨_, (gs_rest V u0 Y (t2) L2.out G2.out.up (by rw [hYY.out]; omega)).1, (gs_rest V u0 Y (t2) L2.out G2.out.up (by rw [hYY.out]; omega)).2.1, (gs_rest V u0 Y (t2) L2.out G2.out.up (by rw [hYY.out]; omega)).2.2, rfl⟩
              have ht0 : t2 < 4294967296 := gs_t L2.out (by have := HVb.out; exact this) u0b YP.out
              have RA := hid (show 0 ≤ R ∧ R < Y from ⟨hRa, hRb⟩)
              clear hRa hRb L2 G2
              go_wp2
              go_ret2
              refine ⟨rfl, t, t2, R, rfl, RA.out.1, RA.out.2, by omega, by omega, by omega, by omega, ?_⟩
              have e1 := HVd.out
              have e0 := HRd.out
              rw [e0, e1]
              generalize Y = Yg
              grind
            · go_wp2
              go_round
              case rel => exact ⟨m - 1, r2 + y1, rfl, rfl, by omega, by omega, by omega, by omega, G2.out⟩
              case measure => simp [intOf]; omega
          · obtain ⟨p3, hp3⟩ : ∃ p3, m * y0 = p3 := ⟨_, rfl⟩
            have hp3a : 0 ≤ p3 := by rw [← hp3]; exact Int.mul_nonneg m0a y0a
            have hp3b : p3 < 18446744073709551616 := by
              rw [← hp3]
              have := Int.mul_le_mul (show m ≤ 4294967295 by omega) (show y0 ≤ 4294967295 by omega) y0a (by omega)
              omega
            by_cases hcd2 : 4294967296 * r2 + u0 < p3
            · have hc : V * 4294967296 + u0 < m * Y := by rw [gs_mul G0.out hYY.out, hp3]; omega
              have hqp := gs_pos (by omega) hc YP.out
              have G2 := hid (gs_step G0.out hc hqp (by omega))
              clear hc
              by_cases hbr : 4294967296 ≤ r2 + y1
              · obtain ⟨t2, rfl⟩ : ∃ t2, m = t2 + 1 := ⟨m - 1, by omega⟩
                rw [show t2 + 1 - 1 = t2 by omega] at G2
                have L2 := hid (gs_brk G2.out hYY.out (by omega) hbr y0a y0b u0a)
                obtain ⟨R, hR, hRa, hRb, HRd⟩ : ∃ R, IntKind.u64.wrap (IntKind.u64.wrap (IntKind.u64.wrap (V * 4294967296) + u0) - IntKind.u64.wrap (t2 * Y)) = R ∧ 0 ≤ R ∧ R < Y ∧ Hid (R = V * 4294967296 + u0 - t2 * Y) := ⟨_, (gs_rest V u0 Y (t2) L2.out G2.out.up (by rw [hYY.out]; omega)).1, (gs_rest V u0 Y (t2) L2.out G2.out.up (by rw [hYY.out]; omega)).2.1, (gs_rest V u0 Y (t2) L2.out G2.out.up (by rw [hYY.out]; omega)).2.2, rfl⟩
                have ht0 : t2 < 4294967296 := gs_t L2.out (by have := HVb.out; exact this) u0b YP.out
                have RA := hid (show 0 ≤ R ∧ R < Y from ⟨hRa, hRb⟩)
                clear hRa hRb L2 G2
                go_wp2
                go_ret2
                refine ⟨rfl, t, t2, R, rfl, RA.out.1, RA.out.2, by omega, by omega, by omega, by omega, ?_⟩
                have e1 := HVd.out
                have e0 := HRd.out
                rw [e0, e1]
                generalize Y = Yg
                grind
              · go_wp2
                go_round
                case rel => exact ⟨m - 1, r2 + y1, rfl, rfl, by omega, by omega, by omega, by omega, G2.out⟩
                case measure => simp [intOf]; omega
            · have L2 := hid (gs_low G0.out hYY.out (by rw [hp3]; omega))
              have G2 := G0
              obtain ⟨R, hR, hRa, hRb, HRd⟩ : ∃ R, IntKind.u64.wrap (IntKind.u64.wrap (IntKind.u64.wrap (V * 4294967296) + u0) - IntKind.u64.wrap (m * Y)) = R ∧ 0 ≤ R ∧ R < Y ∧ Hid (R = V * 4294967296 + u0 - m * Y) := ⟨_, (gs_rest V u0 Y (m) L2.out G2.out.up (by rw [hYY.out]; omega)).1, (gs_rest V u0 Y (m) L2.out G2.out.up (by rw [hYY.out]; omega)).2.1, (gs_rest V u0 Y (m) L2.out G2.out.up (by rw [hYY.out]; omega)).2.2, rfl⟩
              have ht0 : m < 4294967296 := gs_t L2.out (by have := HVb.out; exact this) u0b YP.out
              have RA := hid (show 0 ≤ R ∧ R < Y from ⟨hRa, hRb⟩)
              clear hRa hRb L2 G2
              go_wp2
              go_ret2
              refine ⟨rfl, t, m, R, rfl, RA.out.1, RA.out.2, by omega, by omega, by omega, by omega, ?_⟩
              have e1 := HVd.out
              have e0 := HRd.out
              rw [e0, e1]
              generalize Y = Yg
              grind
      · go_wp2
        go_round
        case rel => exact ⟨q - 1, r + y1, rfl, rfl, by omega, by omega, by omega, by omega, G1.out⟩
        case measure => simp [intOf]; omega
    · obtain ⟨p, hp⟩ : ∃ p, q * y0 = p := ⟨_, rfl⟩
      have hpa : 0 ≤ p := by rw [← hp]; exact Int.mul_nonneg q0a y0a
      have hpb : p < 18446744073709551616 := by
        rw [← hp]
        have := Int.mul_le_mul (show q ≤ 4294967295 by omega) (show y0 ≤ 4294967295 by omega) y0a (by omega)
        omega
      by_cases hcd : 4294967296 * r + u1 < p
      · have hc : U * 4294967296 + u1 < q * Y := by rw [gs_mul G.out hYY.out, hp]; omega
        have hqp := gs_pos (by omega) hc YP.out
        have G1 := hid (gs_step G.out hc hqp (by omega))
        clear hc
        by_cases hbr1 : 4294967296 ≤ r + y1
        · obtain ⟨t, rfl⟩ : ∃ t, q = t + 1 := ⟨q - 1, by omega⟩
          rw [show t + 1 - 1 = t by omega] at G1
          have L1 := hid (gs_brk G1.out hYY.out (by omega) hbr1 y0a y0b u1a)
          obtain ⟨V, hV, hVa, hVb, HVd⟩ : ∃ V, IntKind.u64.wrap (IntKind.u64.wrap (IntKind.u64.wrap (U * 4294967296) + u1) - IntKind.u64.wrap (t * Y)) = V ∧ 0 ≤ V ∧ V < Y ∧ Hid (V = U * 4294967296 + u1 - t * Y) := ⟨_, (gs_rest U u1 Y (t) L1.out G1.out.up (by rw [hYY.out]; omega)).1, (gs_rest U u1 Y (t) L1.out G1.out.up (by rw [hYY.out]; omega)).2.1, (gs_rest U u1 Y (t) L1.out G1.out.up (by rw [hYY.out]; omega)).2.2, rfl⟩
          have ht1 : t < 4294967296 := gs_t L1.out (by rw [hYY.out]; exact Ub) u1b YP.out
          have HVb := hid hVb
          rw [hYY.out] at hVb
          obtain ⟨k, hk⟩ : ∃ k, V / y1 = k := ⟨_, rfl⟩
          obtain ⟨p2, hp2⟩ : ∃ p2, k * y1 = p2 := ⟨_, rfl⟩
          have g := gs_start hVa hYY.out (by omega) y0a u0b
          rw [hk, hp2] at g
          have hk0 := g.q0
          have hr0 := g.r0
          have hkb := gs_q g HVb.out hYY.out y1a y0b
          have hr1 : V - p2 < y1 := by
            have := Int.emod_lt_of_pos V (show 0 < y1 by omega); have := Int.mul_ediv_add_emod V y1
            rw [hk, Int.mul_comm, hp2] at this; omega
          have hp2a : 0 ≤ p2 := by rw [← hp2]; exact Int.mul_nonneg hk0 (by omega)
          have hr2 : V - p2 < 4294967296 := by omega
          have GG := hid g
          clear g L1 G1
          go_wp2
          go_loop [16, 18] (fun d c => ∃ q r : Int, c = .int .u64 q ∧ d = .int .u64 r ∧ 0 ≤ q ∧ q ≤ 4294967297 ∧ 0 ≤ r ∧ r < 4294967296 ∧ Hid (Gs V u0 Y y1 y0 q r)) (fun _ c => (intOf c).toNat)
          case atStart => exact ⟨k, V - p2, rfl, rfl, hk0, hkb, hr0, hr2, GG.out⟩
          case round =>
            clear GG hr0 hr1 hr2 hp2a hkb hk0 hp2 hk
            obtain ⟨m, r2, rfl, rfl, m0a, m0b, r20a, r20b, G0⟩ := hrel
            by_cases hbig2 : 4294967296 ≤ m
            · have hc := gs_big (q := m) HVb.out u0b YP.out hbig2
              have G2 := hid (gs_step G0.out hc (by omega) (by omega))
              clear hc
              by_cases hbr : 4294967296 ≤ r2 + y1
              · obtain ⟨t2, rfl⟩ : ∃ t2, m = t2 + 1 := ⟨m - 1, by omega⟩
                rw [show t2 + 1 - 1 = t2 by omega] at G2
                have L2 := hid (gs_brk G2.out hYY.out (by omega) hbr y0a y0b u0a)
                obtain ⟨R, hR, hRa, hRb, HRd⟩ : ∃ R, IntKind.u64.wrap (IntKind.u64.wrap (IntKind.u64.wrap (V * 4294967296) + u0) - IntKind.u64.wrap (t2 * Y)) = R ∧ 0 ≤ R ∧ R < Y ∧ Hid (R = V * 4294967296 + u0 - t2 * Y) := ⟨_, (gs_rest V u0 Y (t2) L2.out G2.out.up (by rw [hYY.out]; omega)).1, (gs_rest V u0 Y (t2) L2.out G2.out.up (by rw [hYY.out]; omega)).2.1, (gs_rest V u0 Y (t2) L2.out G2.out.up (by rw [hYY.out]; omega)).2.2, rfl⟩
                have ht0 : t2 < 4294967296 := gs_t L2.out (by have := HVb.out; exact this) u0b YP.out
                have RA := hid (show 0 ≤ R ∧ R < Y from ⟨hRa, hRb⟩)
                clear hRa hRb L2 G2
                go_wp2
                go_ret2
                refine ⟨rfl, t, t2, R, rfl, RA.out.1, RA.out.2, by omega, by omega, by omega, by omega, ?_⟩
                have e1 := HVd.out
                have e0 := HRd.out
                rw [e0, e1]
                generalize Y = Yg
                grind
              · go_wp2
                go_round
                case rel => exact ⟨m - 1, r2 + y1, rfl, rfl, by omega, by omega, by omega, by omega, G2.out⟩
                case measure => simp [intOf]; omega
            · obtain ⟨p3, hp3⟩ : ∃ p3, m * y0 = p3 := ⟨_, rfl⟩
              have hp3a : 0 ≤ p3 := by rw [← hp3]; exact Int.mul_nonneg m0a y0a
              have hp3b : p3 < 18446744073709551616 := by
                rw [← hp3]
                have := Int.mul_le_mul (show m ≤ 4294967295 by omega) (show y0 ≤ 4294967295 by omega) y0a (by omega)
                omega
              by_cases hcd2 : 4294967296 * r2 + u0 < p3
              · have hc : V * 4294967296 + u0 < m * Y := by rw [gs_mul G0.out hYY.out, hp3]; omega
                have hqp := gs_pos (by omega) hc YP.out
                have G2 := hid (gs_step G0.out hc hqp (by omega))
                clear hc
                by_cases hbr : 4294967296 ≤ r2 + y1
                · obtain ⟨t2, rfl⟩ : ∃ t2, m = t2 + 1 := ⟨m - 1, by omega⟩
                  rw [show t2 + 1 - 1 = t2 by omega] at G2
                  have L2 := hid (gs_brk G2.out hYY.out (by omega) hbr y0a y0b u0a)
                  obtain ⟨R, hR, hRa, hRb, HRd⟩ : ∃ R, IntKind.u64.wrap (IntKind.u64.wrap (IntKind.u64.wrap (V * 4294967296) + u0) - IntKind.u64.wrap (t2 * Y)) = R ∧ 0 ≤ R ∧ R < Y ∧ Hid (R = V * 4294967296 + u0 - t2 * Y) := ⟨_, (gs_rest V u0 Y (t2) L2.out G2.out.up (by rw [hYY.out]; omega)).1, (gs_rest V u0 Y (t2) L2.out G2.out.up (by rw [hYY.out]; omega)).2.1, (gs_rest V u0 Y (t2) L2.out G2.out.up (by rw [hYY.out]; omega)).2.2, rfl⟩
                  have ht0 : t2 < 4294967296 := gs_t L2.out (by have := HVb.out; exact this) u0b YP.out
                  have RA := hid (show 0 ≤ R ∧ R < Y from ⟨hRa, hRb⟩)
                  clear hRa hRb L2 G2
                  go_wp2
                  go_ret2
                  refine ⟨rfl, t, t2, R, rfl, RA.out.1, RA.out.2, by omega, by omega, by omega, by omega, ?_⟩
                  have e1 := HVd.out
                  have e0 := HRd.out
                  rw [e0, e1]
                  generalize Y = Yg
                  grind
                · go_wp2
                  go_round
                  case rel => exact ⟨m - 1, r2 + y1, rfl, rfl, by omega, by omega, by omega, by omega, G2.out⟩
                  case measure => simp [intOf]; omega
              · have L2 := hid (gs_low G0.out hYY.out (by rw [hp3]; omega))
                have G2 := G0
                obtain ⟨R, hR, hRa, hRb, HRd⟩ : ∃ R, IntKind.u64.wrap (IntKind.u64.wrap (IntKind.u64.wrap (V * 4294967296) + u0) - IntKind.u64.wrap (m * Y)) = R ∧ 0 ≤ R ∧ R < Y ∧ Hid (R = V * 4294967296 + u0 - m * Y) := ⟨_, (gs_rest V u0 Y (m) L2.out G2.out.up (by rw [hYY.out]; omega)).1, (gs_rest V u0 Y (m) L2.out G2.out.up (by rw [hYY.out]; omega)).2.1, (gs_rest V u0 Y (m) L2.out G2.out.up (by rw [hYY.out]; omega)).2.2, rfl⟩
                have ht0 : m < 4294967296 := gs_t L2.out (by have := HVb.out; exact this) u0b YP.out
                have RA := hid (show 0 ≤ R ∧ R < Y from ⟨hRa, hRb⟩)
                clear hRa hRb L2 G2
                go_wp2
                go_ret2
                refine ⟨rfl, t, m, R, rfl, RA.out.1, RA.out.2, by omega, by omega, by omega, by omega, ?_⟩
                have e1 := HVd.out
                have e0 := HRd.out
                rw [e0, e1]
                generalize Y = Yg
                grind
        · go_wp2
          go_round
          case rel => exact ⟨q - 1, r + y1, rfl, rfl, by omega, by omega, by omega, by omega, G1.out⟩
          case measure => simp [intOf]; omega
      · have L1 := hid (gs_low G.out hYY.out (by rw [hp]; omega))
        have G1 := G
        obtain ⟨V, hV, hVa, hVb, HVd⟩ : ∃ V, IntKind.u64.wrap (IntKind.u64.wrap (IntKind.u64.wrap (U * 4294967296) + u1) - IntKind.u64.wrap (q * Y)) = V ∧ 0 ≤ V ∧ V < Y ∧ Hid (V = U * 4294967296 + u1 - q * Y) := ⟨_, (gs_rest U u1 Y (q) L1.out G1.out.up (by rw [hYY.out]; omega)).1, (gs_rest U u1 Y (q) L1.out G1.out.up (by rw [hYY.out]; omega)).2.1, (gs_rest U u1 Y (q) L1.out G1.out.up (by rw [hYY.out]; omega)).2.2, rfl⟩
        have ht1 : q < 4294967296 := gs_t L1.out (by rw [hYY.out]; exact Ub) u1b YP.out
        have HVb := hid hVb
        rw [hYY.out] at hVb
        obtain ⟨k, hk⟩ : ∃ k, V / y1 = k := ⟨_, rfl⟩
        obtain ⟨p2, hp2⟩ : ∃ p2, k * y1 = p2 := ⟨_, rfl⟩
        have g := gs_start hVa hYY.out (by omega) y0a u0b
        rw [hk, hp2] at g
        have hk0 := g.q0
        have hr0 := g.r0
        have hkb := gs_q g HVb.out hYY.out y1a y0b
        have hr1 : V - p2 < y1 := by
          have := Int.emod_lt_of_pos V (show 0 < y1 by omega); have := Int.mul_ediv_add_emod V y1
          rw [hk, Int.mul_comm, hp2] at this; omega
        have hp2a : 0 ≤ p2 := by rw [← hp2]; exact Int.mul_nonneg hk0 (by omega)
        have hr2 : V - p2 < 4294967296 := by omega
        have GG := hid g
        clear g L1 G1
        go_wp2
        go_loop [16, 18] (fun d c => ∃ q r : Int, c = .int .u64 q ∧ d = .int .u64 r ∧ 0 ≤ q ∧ q ≤ 4294967297 ∧ 0 ≤ r ∧ r < 4294967296 ∧ Hid (Gs V u0 Y y1 y0 q r)) (fun _ c => (intOf c).toNat)
        case atStart => exact ⟨k, V - p2, rfl, rfl, hk0, hkb, hr0, hr2, GG.out⟩
        case round =>
          clear GG hr0 hr1 hr2 hp2a hkb hk0 hp2 hk
          obtain ⟨m, r2, rfl, rfl, m0a, m0b, r20a, r20b, G0⟩ := hrel
          by_cases hbig2 : 4294967296 ≤ m
          · have hc := gs_big (q := m) HVb.out u0b YP.out hbig2
            have G2 := hid (gs_step G0.out hc (by omega) (by omega))
            clear hc
            by_cases hbr : 4294967296 ≤ r2 + y1
            · obtain ⟨t2, rfl⟩ : ∃ t2, m = t2 + 1 := ⟨m - 1, by omega⟩
              rw [show t2 + 1 - 1 = t2 by omega] at G2
              have L2 := hid (gs_brk G2.out hYY.out (by omega) hbr y0a y0b u0a)
              obtain ⟨R, hR, hRa, hRb, HRd⟩ : ∃ R, IntKind.u64.wrap (IntKind.u64.wrap (IntKind.u64.wrap (V * 4294967296) + u0) - IntKind.u64.wrap (t2 * Y)) = R ∧ 0 ≤ R ∧ R < Y ∧ Hid (R = V * 4294967296 + u0 - t2 * Y) := ⟨_, (gs_rest V u0 Y (t2) L2.out G2.out.up (by rw [hYY.out]; omega)).1, (gs_rest V u0 Y (t2) L2.out G2.out.up (by rw [hYY.out]; omega)).2.1, (gs_rest V u0 Y (t2) L2.out G2.out.up (by rw [hYY.out]; omega)).2.2, rfl⟩
              have ht0 : t2 < 4294967296 := gs_t L2.out (by have := HVb.out; exact this) u0b YP.out
              have RA := hid (show 0 ≤ R ∧ R < Y from ⟨hRa, hRb⟩)
              clear hRa hRb L2 G2
              go_wp2
              go_ret2
              refine ⟨rfl, q, t2, R, rfl, RA.out.1, RA.out.2, by omega, by omega, by omega, by omega, ?_⟩
              have e1 := HVd.out
              have e0 := HRd.out
              rw [e0, e1]
              generalize Y = Yg
              grind
            · go_wp2
              go_round
              case rel => exact ⟨m - 1, r2 + y1, rfl, rfl, by omega, by omega, by omega, by omega, G2.out⟩
              case measure => simp [intOf]; omega
          · obtain ⟨p3, hp3⟩ : ∃ p3, m * y0 = p3 := ⟨_, rfl⟩
            have hp3a : 0 ≤ p3 := by rw [← hp3]; exact Int.mul_nonneg m0a y0a
            have hp3b : p3 < 18446744073709551616 := by
              rw [← hp3]
              have := Int.mul_le_mul (show m ≤ 4294967295 by omega) (show y0 ≤ 4294967295 by omega) y0a (by omega)
              omega
            by_cases hcd2 : 4294967296 * r2 + u0 < p3
            · have hc : V * 4294967296 + u0 < m * Y := by rw [gs_mul G0.out hYY.out, hp3]; omega
              have hqp := gs_pos (by omega) hc YP.out
              have G2 := hid (gs_step G0.out hc hqp (by omega))
              clear hc
              by_cases hbr : 4294967296 ≤ r2 + y1
              · obtain ⟨t2, rfl⟩ : ∃ t2, m = t2 + 1 := ⟨m - 1, by omega⟩
                rw [show t2 + 1 - 1 = t2 by omega] at G2
                have L2 := hid (gs_brk G2.out hYY.out (by omega) hbr y0a y0b u0a)
                obtain ⟨R, hR, hRa, hRb, HRd⟩ : ∃ R, IntKind.u64.wrap (IntKind.u64.wrap (IntKind.u64.wrap (V * 4294967296) + u0) - IntKind.u64.wrap (t2 * Y)) = R ∧ 0 ≤ R ∧ R < Y ∧ Hid (R = V * 4294967296 + u0 - t2 * Y) := ⟨_, (gs_rest V u0 Y (t2) L2.out G2.out.up (by rw [hYY.out]; omega)).1, (gs_rest V u0 Y (t2) L2.out G2.out.up (by rw [hYY.out]; omega)).2.1, (gs_rest V u0 Y (t2) L2.out G2.out.up (by rw [hYY.out]; omega)).2.2, rfl⟩
                have ht0 : t2 < 4294967296 := gs_t L2.out (by have := HVb.out; exact this) u0b YP.out
                have RA := hid (show 0 ≤ R ∧ R < Y from ⟨hRa, hRb⟩)
                clear hRa hRb L2 G2
                go_wp2
                go_ret2
                refine ⟨rfl, q, t2, R, rfl, RA.out.1, RA.out.2, by omega, by omega, by omega, by omega, ?_⟩
                have e1 := HVd.out
                have e0 := HRd.out
                rw [e0, e1]
                generalize Y = Yg
                grind
              · go_wp2
                go_round
                case rel => exact ⟨m - 1, r2 + y1, rfl, rfl, by omega, by omega, by omega, by omega, G2.out⟩
                case measure => simp [intOf]; omega
            · have L2 := hid (gs_low G0.out hYY.out (by rw [hp3]; omega))
              have G2 := G0
              obtain ⟨R, hR, hRa, hRb, HRd⟩ : ∃ R, IntKind.u64.wrap (IntKind.u64.wrap (IntKind.u64.wrap (V * 4294967296) + u0) - IntKind.u64.wrap (m * Y)) = R ∧ 0 ≤ R ∧ R < Y ∧ Hid (R = V * 4294967296 + u0 - m * Y) := ⟨_, (gs_rest V u0 Y (m) L2.out G2.out.up (by rw [hYY.out]; omega)).1, (gs_rest V u0 Y (m) L2.out G2.out.up (by rw [hYY.out]; omega)).2.1, (gs_rest V u0 Y (m) L2.out G2.out.up (by rw [hYY.out]; omega)).2.2, rfl⟩
              have ht0 : m < 4294967296 := gs_t L2.out (by have := HVb.out; exact this) u0b YP.out
              have RA := hid (show 0 ≤ R ∧ R < Y from ⟨hRa, hRb⟩)
              clear hRa hRb L2 G2
              go_wp2
              go_ret2
              refine ⟨rfl, q, m, R, rfl, RA.out.1, RA.out.2, by omega, by omega, by omega, by omega, ?_⟩
              have e1 := HVd.out
              have e0 := HRd.out
              rw [e0, e1]
              generalize Y = Yg
              grind
end Go.Proofs.YtjjbmioicliipabDoor

/-
  math/bits.Div64: quotient and rest of a number of two limbs by a limb. math/bits.Div64: its contract. Walks of package nat's quotients by one limb, and of the greatest common divisor of two limbs. Walks of the document's reference for nat: Word, short. The walk of the document's reference for nat: Mul. Digits to the base 2^32 that can be read, with their number; the reference's Add, Sub, Mul on them. Numbers times 2^n, limb by limb and digit by digit; a list made with room behind it. No Go text is named here. The walk of the document's reference for nat: bit, Bits, DivMod. Walks of package nat's shl and Shl: a number times 2^n. Walks of the document's reference for nat: the calls DocAdd, DocSub, DocCmp. Walks of nat.Shl and of the document's reference: Shl, DocShl. The walk of the document's reference for nat: half, Gcd. The walk of the document's reference for nat: Gcd. Walks of package nat: divMod by one limb or of a lesser number, gcd of one limb, and the calls DivMod and Gcd there. Walks of package nat's products, limb by limb: mulAdd, mulAddTo, addLimbProducts. Walks of package nat's products of a number and one of less than 40 limbs: addProduct, product, mul. Walks of package nat's products of long numbers: half, addPieceProducts.
-/
import Derived.Test.YtedpomledbgpoaaGreatZ0
import Derived.BigRegion
import Derived.Deep.RegionWith
import Derived.Deep.RegionHeld3
import Derived.BigQuiet
namespace Go.Proofs.YtedpomledbgpoaaGreat
open Go.RowKit

/-- One digit of a quotient, guessed: the guess and what is left of the divisor's high half. -/
structure Gs (U u1 Y y1 y0 q r : Int) : Prop where
  q0 : 0 ≤ q
  r0 : 0 ≤ r
  eq : U = q * y1 + r
  up : U * 4294967296 + u1 < (q + 1) * Y
theorem gs_start {U u1 Y y1 y0 : Int} (hU0 : 0 ≤ U) (hY : Y = y1 * 4294967296 + y0) (h1 : 0 < y1) (h0 : 0 ≤ y0) (k1 : u1 < 4294967296) : Gs U u1 Y y1 y0 (U / y1) (U - U / y1 * y1) := by
  have a := Int.emod_nonneg U (Int.ne_of_gt h1)
  have b := Int.emod_lt_of_pos U h1
  have c := Int.mul_ediv_add_emod U y1
  have d : U / y1 * y1 = y1 * (U / y1) := Int.mul_comm _ _
  have e : 0 ≤ U / y1 := Int.ediv_nonneg hU0 (Int.le_of_lt h1)
  have f : 0 ≤ (U / y1 + 1) * y0 := Int.mul_nonneg (by omega) h0
  have g : (U / y1 + 1) * Y = y1 * (U / y1) * 4294967296 + y1 * 4294967296 + (U / y1 + 1) * y0 := by rw [hY]; grind
  refine ⟨e, by omega, by omega, ?_⟩
  rw [g]; omega
theorem gs_q {U u1 Y y1 y0 q r : Int} (h : Gs U u1 Y y1 y0 q r) (hU : U < Y) (hY : Y = y1 * 4294967296 + y0) (h1 : 2147483648 ≤ y1) (h2 : y0 < 4294967296) : q ≤ 4294967297 := by
  apply Int.le_of_lt_add_one
  have := h.eq; have := h.r0
  have h3 : q * y1 < (4294967297 + 1) * y1 := by omega
  exact Int.lt_of_mul_lt_mul_right h3 (by omega)
theorem gs_pos {U u1 Y q : Int} (hT : 0 ≤ U * 4294967296 + u1) (hc : U * 4294967296 + u1 < q * Y) (hY : 0 < Y) : 0 < q := by
  apply Int.lt_of_not_ge
  intro h
  have : q * Y ≤ 0 * Y := Int.mul_le_mul_of_nonneg_right h (Int.le_of_lt hY)
  omega
theorem gs_big {U u1 Y q : Int} (hU : U < Y) (k1 : u1 < 4294967296) (hY : 0 < Y) (hq : 4294967296 ≤ q) : U * 4294967296 + u1 < q * Y := by
  have : 4294967296 * Y ≤ q * Y := Int.mul_le_mul_of_nonneg_right hq (Int.le_of_lt hY)
  omega
theorem gs_mul {U u1 Y y1 y0 q r : Int} (h : Gs U u1 Y y1 y0 q r) (hY : Y = y1 * 4294967296 + y0) : q * Y = (U - r) * 4294967296 + q * y0 := by
  have := h.eq
  rw [hY, Int.mul_add, ← Int.mul_assoc]
  have : q * y1 = U - r := by omega
  rw [this]
theorem gs_step {U u1 Y y1 y0 q r : Int} (h : Gs U u1 Y y1 y0 q r) (hc : U * 4294967296 + u1 < q * Y) (hq : 0 < q) (h1 : 0 ≤ y1) : Gs U u1 Y y1 y0 (q - 1) (r + y1) := by
  have := h.eq; have := h.r0
  refine ⟨by omega, by omega, ?_, ?_⟩
  · rw [Int.sub_mul]; omega
  · have e : q - 1 + 1 = q := by omega
    rw [e]; exact hc

theorem gs_low {U u1 Y y1 y0 q r : Int} (h : Gs U u1 Y y1 y0 q r) (hY : Y = y1 * 4294967296 + y0) (hc : q * y0 ≤ 4294967296 * r + u1) : q * Y ≤ U * 4294967296 + u1 := by
  rw [gs_mul h hY]; omega
theorem gs_brk {U u1 Y y1 y0 q r : Int} (h : Gs U u1 Y y1 y0 q r) (hY : Y = y1 * 4294967296 + y0) (hq : q ≤ 4294967296) (hr : 4294967296 ≤ r) (h0 : 0 ≤ y0) (h1 : y0 < 4294967296) (k0 : 0 ≤ u1) : q * Y ≤ U * 4294967296 + u1 := by
  refine gs_low h hY ?_
  have : q * y0 ≤ 4294967296 * y0 := Int.mul_le_mul_of_nonneg_right hq h0
  omega
theorem gs_rest (U u1 Y t : Int) (h1 : t * Y ≤ U * 4294967296 + u1) (h2 : U * 4294967296 + u1 < (t + 1) * Y) (hY : Y ≤ 18446744073709551616) :
    IntKind.u64.wrap (IntKind.u64.wrap (IntKind.u64.wrap (U * 4294967296) + u1) - IntKind.u64.wrap (t * Y)) = U * 4294967296 + u1 - t * Y ∧ 0 ≤ U * 4294967296 + u1 - t * Y ∧ U * 4294967296 + u1 - t * Y < Y := by
  rw [Int.add_mul, Int.one_mul] at h2
  refine ⟨?_, by omega, by omega⟩
  simp only [IntKind.wrap_u64]
  generalize t * Y = X at *
  omega
theorem gs_t {U u1 Y t : Int} (h1 : t * Y ≤ U * 4294967296 + u1) (hU : U < Y) (k1 : u1 < 4294967296) (hY : 0 < Y) : t < 4294967296 := by
  have : t * Y < 4294967296 * Y := by omega
  exact Int.lt_of_mul_lt_mul_right this (Int.le_of_lt hY)

set_option maxRecDepth 100000 in
set_option maxHeartbeats 4000000 in
theorem div64_core (hi lo y s Y y1 y0 U L u1 u0 : Int) (w : World) (h0 : 0 < hi) (h1 : hi < y) (_hy : y < 18446744073709551616) (_l0 : 0 ≤ lo) (_l1 : lo < 18446744073709551616) (s0 : 0 ≤ s) (s1 : s ≤ 63)
    (hs : Calls Tryz.prog 151 #[.int .u64 y] w fun e w' => e = .returned (.int .i64 s) ∧ w' = w)
    (hY : IntKind.u64.wrap (y * 2 ^ s.toNat) = Y) (hY1 : Y / 4294967296 = y1) (hY0 : bits BinOp.and .u64 Y 4294967295 = y0)
    (hU : bits BinOp.or .u64 (IntKind.u64.wrap (hi * 2 ^ s.toNat)) (lo / 2 ^ (64 - s).toNat) = U) (hL : IntKind.u64.wrap (lo * 2 ^ s.toNat) = L) (hL1 : L / 4294967296 = u1) (hL0 : bits BinOp.and .u64 L 4294967295 = u0)
    (y1a : 2147483648 ≤ y1) (y1b : y1 < 4294967296) (y0a : 0 ≤ y0) (y0b : y0 < 4294967296) (u1a : 0 ≤ u1) (u1b : u1 < 4294967296) (u0a : 0 ≤ u0) (u0b : u0 < 4294967296) (Ua : 0 ≤ U) (Ub : U < y1 * 4294967296 + y0) (hYY : Hid (Y = y1 * 4294967296 + y0)) :
    Calls Tryz.prog 150 #[.int .u64 hi, .int .u64 lo, .int .u64 y] w fun e w' => w' = w ∧ ∃ q1 q0 R, e = .returned (.tuple #[.int .u64 (q1 * 4294967296 + q0), .int .u64 (R / 2 ^ s.toNat)]) ∧ 0 ≤ R ∧ R < Y ∧ 0 ≤ q1 ∧ q1 < 4294967296 ∧ 0 ≤ q0 ∧ q0 < 4294967296 ∧ (U * 4294967296 + u1) * 4294967296 + u0 = (q1 * 4294967296 + q0) * Y + R := by
  have HS := hid hs
  clear hs
  obtain ⟨q, hq⟩ : ∃ q, U / y1 = q := ⟨_, rfl⟩
  obtain ⟨p, hp⟩ : ∃ p, q * y1 = p := ⟨_, rfl⟩
  have g := gs_start Ua hYY.out (by omega) y0a u1b
  rw [hq, hp] at g
  have hq0 := g.q0
  have hr0 := g.r0
  have hqb := gs_q g (by rw [hYY.out]; exact Ub) hYY.out y1a y0b
  have hr1 : U - p < y1 := by
    have := Int.emod_lt_of_pos U (show 0 < y1 by omega); have := Int.mul_ediv_add_emod U y1
    rw [hq, Int.mul_comm, hp] at this; omega
  have hpa : 0 ≤ p := by rw [← hp]; exact Int.mul_nonneg hq0 (by omega)
  have G := hid g
  clear g
  have hyh : decide (y ≤ hi) = false := by simp; omega
  have YP : Hid (0 < Y) := by show _ < _; rw [hYY.out]; omega
  have hr2 : U - p < 4294967296 := by omega
  go_enter Tryz.func150, Tryz.ntmps150
  go_wp2_with fail
  refine HS.out.mono ?_
  rintro e w1 ⟨rfl, rfl⟩
  go_wp2
  go_loop [15, 16] (fun c d => ∃ q r : Int, c = .int .u64 q ∧ d = .int .u64 r ∧ 0 ≤ q ∧ q ≤ 4294967297 ∧ 0 ≤ r ∧ r < 4294967296 ∧ Hid (Gs U u1 Y y1 y0 q r)) (fun c _ => (intOf c).toNat)
  case atStart => exact ⟨U / y1, U - p, rfl, rfl, by rw [hq]; exact hq0, by rw [hq]; exact hqb, hr0, hr2, by rw [hq]; exact G.out⟩
  case round =>
    clear G hr0 hr1 hr2 hpa hqb hq0 hp hq
    obtain ⟨q, r, rfl, rfl, q0a, q0b, r0a, r0b, G⟩ := hrel
    by_cases hbig : 4294967296 ≤ q
    · have hc := gs_big (q := q) (by rw [hYY.out]; exact Ub) u1b YP.out hbig
      have G1 := hid (gs_step G.out hc (by omega) (by omega))
      clear hc
      by_cases hbr1 : 4294967296 ≤ r + y1
      · obtain ⟨t, rfl⟩ : ∃ t, q = t + 1 := ⟨q - 1, by omega⟩
        rw [show t + 1 - 1 = t by omega] at G1
        have L1 := hid (gs_brk G1.out hYY.out (by omega) hbr1 y0a y0b u1a)
        obtain ⟨V, hV, hVa, hVb, HVd⟩ : ∃ V, IntKind.u64.wrap (IntKind.u64.wrap (IntKind.u64.wrap (U * 4294967296) + u1) - IntKind.u64.wrap (t * Y)) = V ∧ 0 ≤ V ∧ V < Y ∧ Hid (V = U * 4294967296 + u1 - t * Y) := ⟨_, (gs_rest U u1 Y (t) L1.out G1.out.up (by rw [hYY.out]; omega)).1, (gs_rest U u1 Y (t) L1.out G1.out.up (by rw [hYY.out]; omega)).2.1, (gs_rest U u1 Y (t) L1.out G1.out.up (by rw [hYY.out]; omega)).2.2, rfl⟩
        have ht1 : t < 4294967296 := gs_t L1.out (by rw [hYY.out]; exact Ub) u1b YP.out
        have HVb := hid hVb
        rw [hYY.out] at hVb
        obtain ⟨k, hk⟩ : ∃ k, V / y1 = k := ⟨_, rfl⟩
        obtain ⟨p2, hp2⟩ : ∃ p2, k * y1 = p2 := ⟨_, rfl⟩
        have g := gs_start hVa hYY.out (by omega) y0a u0b
        rw [hk, hp2] at g
        have hk0 := g.q0
        have hr0 := g.r0
        have hkb := gs_q g HVb.out hYY.out y1a y0b
        have hr1 : V - p2 < y1 := by
          have := Int.emod_lt_of_pos V (show 0 < y1 by omega); have := Int.mul_ediv_add_emod V y1
          rw [hk, Int.mul_comm, hp2] at this; omega
        have hp2a : 0 ≤ p2 := by rw [← hp2]; exact Int.mul_nonneg hk0 (by omega)
        have hr2 : V - p2 < 4294967296 := by omega
        have GG := hid g
        clear g L1 G1
        go_wp2
        go_loop [16, 18] (fun d c => ∃ q r : Int, c = .int .u64 q ∧ d = .int .u64 r ∧ 0 ≤ q ∧ q ≤ 4294967297 ∧ 0 ≤ r ∧ r < 4294967296 ∧ Hid (Gs V u0 Y y1 y0 q r)) (fun _ c => (intOf c).toNat)
        case atStart => exact ⟨k, V - p2, rfl, rfl, hk0, hkb, hr0, hr2, GG.out⟩
        case round =>
          clear GG hr0 hr1 hr2 hp2a hkb hk0 hp2 hk
          obtain ⟨m, r2, rfl, rfl, m0a, m0b, r20a, r20b, G0⟩ := hrel
          by_cases hbig2 : 4294967296 ≤ m
          · have hc := gs_big (q := m) HVb.out u0b YP.out hbig2
            have G2 := hid (gs_step G0.out hc (by omega) (by omega))
            clear hc
            by_cases hbr : 4294967296 ≤ r2 + y1
            · obtain ⟨t2, rfl⟩ : ∃ t2, m = t2 + 1 := ⟨m - 1, by omega⟩
              rw [show t2 + 1 - 1 = t2 by omega] at G2
              have L2 := hid (gs_brk G2.out hYY.out (by omega) hbr y0a y0b u0a)
              obtain ⟨R, hR, hRa, hRb, HRd⟩ : ∃ R, IntKind.u64.wrap (IntKind.u64.wrap (IntKind.u64.wrap (V * 4294967296) + u0) - IntKind.u64.wrap (t2 * Y)) = R ∧ 0 ≤ R ∧ R < Y ∧ Hid (R = V * 4294967296 + u0 - t2 * Y) := ⟨_, (gs_rest V u0 Y (t2) L2.out G2.out.up (by rw [hYY.out]; omega)).1, (gs_rest V u0 Y (t2) L2.out G2.out.up (by rw [hYY.out]; omega)).2.1, (gs_rest V u0 Y (t2) L2.out G2.out.up (by rw [hYY.out]; omega)).2.2, rfl⟩
              have ht0 : t2 < 4294967296 := gs_t L2.out (by have := HVb.out; exact this) u0b YP.out
              have RA := hid (show 0 ≤ R ∧ R < Y from ⟨hRa, hRb⟩)
              clear hRa hRb L2 G2
              go_wp2
              go_ret2
              refine ⟨rfl, t, t2, R, rfl, RA.out.1, RA.out.2, by omega, by omega, by omega, by omega, ?_⟩
              have e1 := HVd.out
              have e0 := HRd.out
              rw [e0, e1]
              generalize Y = Yg
              grind
            · go_wp2
              go_round
              case rel => exact ⟨m - 1, r2 + y1, rfl, rfl, by omega, by omega, by omega, by omega, G2.out⟩
              case measure => simp [intOf]; omega
          · obtain ⟨p3, hp3⟩ : ∃ p3, m * y0 = p3 := ⟨_, rfl⟩
            have hp3a : 0 ≤ p3 := by rw [← hp3]; exact Int.mul_nonneg m0a y0a
            have hp3b : p3 < 18446744073709551616 := by
              rw [← hp3]
              have := Int.mul_le_mul (show m ≤ 4294967295 by omega) (show y0 ≤ 4294967295 by omega) y0a (by omega)
              omega
            by_cases hcd2 : 4294967296 * r2 + u0 < p3
            · have hc : V * 4294967296 + u0 < m * Y := by rw [gs_mul G0.out hYY.out, hp3]; omega
              have hqp := gs_pos (by omega) hc YP.out
              have G2 := hid (gs_step G0.out hc hqp (by omega))
              clear hc
              by_cases hbr : 4294967296 ≤ r2 + y1
              · obtain ⟨t2, rfl⟩ : ∃ t2, m = t2 + 1 := ⟨m - 1, by omega⟩
                rw [show t2 + 1 - 1 = t2 by omega] at G2
                have L2 := hid (gs_brk G2.out hYY.out (by omega) hbr y0a y0b u0a)
                obtain ⟨R, hR, hRa, hRb, HRd⟩ : ∃ R, IntKind.u64.wrap (IntKind.u64.wrap (IntKind.u64.wrap (V * 4294967296) + u0) - IntKind.u64.wrap (t2 * Y)) = R ∧ 0 ≤ R ∧ R < Y ∧ Hid (R = V * 4294967296 + u0 - t2 * Y) := ⟨_, (gs_rest V u0 Y (t2) L2.out G2.out.up (by rw [hYY.out]; omega)).1, (gs_rest V u0 Y (t2) L2.out G2.out.up (by rw [hYY.out]; omega)).2.1, (gs_rest V u0 Y (t2) L2.out G2.out.up (by rw [hYY.out]; omega)).2.2, rfl⟩
                have ht0 : t2 < 4294967296 := gs_t L2.out (by have := HVb.out; exact this) u0b YP.out
                have RA := hid (show 0 ≤ R ∧ R < Y from ⟨hRa, hRb⟩)
                clear hRa hRb L2 G2
                go_wp2
                go_ret2
                refine ⟨rfl, t, t2, R, rfl, RA.out.1, RA.out.2, by omega, by omega, by omega, by omega, ?_⟩
                have e1 := HVd.out
                have e0 := HRd.out
                rw [e0, e1]
                generalize Y = Yg
                grind
              · go_wp2
                go_round
                case rel => exact ⟨m - 1, r2 + y1, rfl, rfl, by omega, by omega, by omega, by omega, G2.out⟩
                case measure => simp [intOf]; omega
            · have L2 := hid (gs_low G0.out hYY.out (by rw [hp3]; omega))
              have G2 := G0
              obtain ⟨R, hR, hRa, hRb, HRd⟩ : ∃ R, IntKind.u64.wrap (IntKind.u64.wrap (IntKind.u64.wrap (V * 4294967296) + u0) - IntKind.u64.wrap (m * Y)) = R ∧ 0 ≤ R ∧ R < Y ∧ Hid (R = V * 4294967296 + u0 - m * Y) := ⟨_, (gs_rest V u0 Y (m) L2.out G2.out.up (by rw [hYY.out]; omega)).1, (gs_rest V u0 Y (m) L2.out G2.out.up (by rw [hYY.out]; omega)).2.1, (gs_rest V u0 Y (m) L2.out G2.out.up (by rw [hYY.out]; omega)).2.2, rfl⟩
              have ht0 : m < 4294967296 := gs_t L2.out (by have := HVb.out; exact this) u0b YP.out
              have RA := hid (show 0 ≤ R ∧ R < Y from ⟨hRa, hRb⟩)
              clear hRa hRb L2 G2
              go_wp2
              go_ret2
              refine ⟨rfl, t, m, R, rfl, RA.out.1, RA.out.2, by omega, by omega, by omega, by omega, ?_⟩
              have e1 := HVd.out
              have e0 := HRd.out
              rw [e0, e1]
              generalize Y = Yg
              grind
      · go_wp2
        go_round
        case rel => exact ⟨q - 1, r + y1, rfl, rfl, by omega, by omega, by omega, by omega, G1.out⟩
        case measure => simp [intOf]; omega
    · obtain ⟨p, hp⟩ : ∃ p, q * y0 = p := ⟨_, rfl⟩
      have hpa : 0 ≤ p := by rw [← hp]; exact Int.mul_nonneg q0a y0a
      have hpb : p < 18446744073709551616 := by
        rw [← hp]
        have := Int.mul_le_mul (show q ≤ 4294967295 by omega) (show y0 ≤ 4294967295 by omega) y0a (by omega)
        omega
      by_cases hcd : 4294967296 * r + u1 < p
      · have hc : U * 4294967296 + u1 < q * Y := by rw [gs_mul G.out hYY.out, hp]; omega
        have hqp := gs_pos (by omega) hc YP.out
        have G1 := hid (gs_step G.out hc hqp (by omega))
        clear hc
        by_cases hbr1 : 4294967296 ≤ r + y1
        · obtain ⟨t, rfl⟩ : ∃ t, q = t + 1 := ⟨q - 1, by omega⟩
          rw [show t + 1 - 1 = t by omega] at G1
          have L1 := hid (gs_brk G1.out hYY.out (by omega) hbr1 y0a y0b u1a)
          obtain ⟨V, hV, hVa, hVb, HVd⟩ : ∃ V, IntKind.u64.wrap (IntKind.u64.wrap (IntKind.u64.wrap (U * 4294967296) + u1) - IntKind.u64.wrap (t * Y)) = V ∧ 0 ≤ V ∧ V < Y ∧ Hid (V = U * 4294967296 + u1 - t * Y) := ⟨_, (gs_rest U u1 Y (t) L1.out G1.out.up (by rw [hYY.out]; omega)).1, (gs_rest U u1 Y (t) L1.out G1.out.up (by rw [hYY.out]; omega)).2.1, (gs_rest U u1 Y (t) L1.out G1.out.up (by rw [hYY.out]; omega)).2.2, rfl⟩
          have ht1 : t < 4294967296 := gs_t L1.out (by rw [hYY.out]; exact Ub) u1b YP.out
          have HVb := hid hVb
          rw [hYY.out] at hVb
          obtain ⟨k, hk⟩ : ∃ k, V / y1 = k := ⟨_, rfl⟩
          obtain ⟨p2, hp2⟩ : ∃ p2, k * y1 = p2 := ⟨_, rfl⟩
          have g := gs_start hVa hYY.out (by omega) y0a u0b
          rw [hk, hp2] at g
          have hk0 := g.q0
          have hr0 := g.r0
          have hkb := gs_q g HVb.out hYY.out y1a y0b
          have hr1 : V - p2 < y1 := by
            have := Int.emod_lt_of_pos V (show 0 < y1 by omega); have := Int.mul_ediv_add_emod V y1
            rw [hk, Int.mul_comm, hp2] at this; omega
          have hp2a : 0 ≤ p2 := by rw [← hp2]; exact Int.mul_nonneg hk0 (by omega)
          have hr2 : V - p2 < 4294967296 := by omega
          have GG := hid g
          clear g L1 G1
          go_wp2
          go_loop [16, 18] (fun d c => ∃ q r : Int, c = .int .u64 q ∧ d = .int .u64 r ∧ 0 ≤ q ∧ q ≤ 4294967297 ∧ 0 ≤ r ∧ r < 4294967296 ∧ Hid (Gs V u0 Y y1 y0 q r)) (fun _ c => (intOf c).toNat)
          case atStart => exact ⟨k, V - p2, rfl, rfl, hk0, hkb, hr0, hr2, GG.out⟩
          case round =>
            clear GG hr0 hr1 hr2 hp2a hkb hk0 hp2 hk
            obtain ⟨m, r2, rfl, rfl, m0a, m0b, r20a, r20b, G0⟩ := hrel
            by_cases hbig2 : 4294967296 ≤ m
            · have hc := gs_big (q := m) HVb.out u0b YP.out hbig2
              have G2 := hid (gs_step G0.out hc (by omega) (by omega))
              clear hc
              by_cases hbr : 4294967296 ≤ r2 + y1
              · obtain ⟨t2, rfl⟩ : ∃ t2, m = t2 + 1 := ⟨m - 1, by omega⟩
                rw [show t2 + 1 - 1 = t2 by omega] at G2
                have L2 := hid (gs_brk G2.out hYY.out (by omega) hbr y0a y0b u0a)
                obtain ⟨R, hR, hRa, hRb, HRd⟩ : ∃ R, IntKind.u64.wrap (IntKind.u64.wrap (IntKind.u64.wrap (V * 4294967296) + u0) - IntKind.u64.wrap (t2 * Y)) = R ∧ 0 ≤ R ∧ R < Y ∧ Hid (R = V * 4294967296 + u0 - t2 * Y) := ⟨_, (gs_rest V u0 Y (t2) L2.out G2.out.up (by rw [hYY.out]; omega)).1, (gs_rest V u0 Y (t2) L2.out G2.out.up (by rw [hYY.out]; omega)).2.1, (gs_rest V u0 Y (t2) L2.out G2.out.up (by rw [hYY.out]; omega)).2.2, rfl⟩
                have ht0 : t2 < 4294967296 := gs_t L2.out (by have := HVb.out; exact this) u0b YP.out
                have RA := hid (show 0 ≤ R ∧ R < Y from ⟨hRa, hRb⟩)
                clear hRa hRb L2 G2
                go_wp2
                go_ret2
                refine ⟨rfl, t, t2, R, rfl, RA.out.1, RA.out.2, by omega, by omega, by omega, by omega, ?_⟩
                have e1 := HVd.out
                have e0 := HRd.out
                rw [e0, e1]
                generalize Y = Yg
                grind
              · go_wp2
                go_round
                case rel => exact ⟨m - 1, r2 + y1, rfl, rfl, by omega, by omega, by omega, by omega, G2.out⟩
                case measure => simp [intOf]; omega
            · obtain ⟨p3, hp3⟩ : ∃ p3, m * y0 = p3 := ⟨_, rfl⟩
              have hp3a : 0 ≤ p3 := by rw [← hp3]; exact Int.mul_nonneg m0a y0a
              have hp3b : p3 < 18446744073709551616 := by
                rw [← hp3]
                have := Int.mul_le_mul (show m ≤ 4294967295 by omega) (show y0 ≤ 4294967295 by omega) y0a (by omega)
                omega
              by_cases hcd2 : 4294967296 * r2 + u0 < p3
              · have hc : V * 4294967296 + u0 < m * Y := by rw [gs_mul G0.out hYY.out, hp3]; omega
                have hqp := gs_pos (by omega) hc YP.out
                have G2 := hid (gs_step G0.out hc hqp (by omega))
                clear hc
                by_cases hbr : 4294967296 ≤ r2 + y1
                · obtain ⟨t2, rfl⟩ : ∃ t2, m = t2 + 1 := ⟨m - 1, by omega⟩
                  rw [show t2 + 1 - 1 = t2 by omega] at G2
                  have L2 := hid (gs_brk G2.out hYY.out (by omega) hbr y0a y0b u0a)
                  obtain ⟨R, hR, hRa, hRb, HRd⟩ : ∃ R, IntKind.u64.wrap (IntKind.u64.wrap (IntKind.u64.wrap (V * 4294967296) + u0) - IntKind.u64.wrap (t2 * Y)) = R ∧ 0 ≤ R ∧ R < Y ∧ Hid (R = V * 4294967296 + u0 - t2 * Y) := ⟨_, (gs_rest V u0 Y (t2) L2.out G2.out.up (by rw [hYY.out]; omega)).1, (gs_rest V u0 Y (t2) L2.out G2.out.up (by rw [hYY.out]; omega)).2.1, (gs_rest V u0 Y (t2) L2.out G2.out.up (by rw [hYY.out]; omega)).2.2, rfl⟩
                  have ht0 : t2 < 4294967296 := gs_t L2.out (by have := HVb.out; exact this) u0b YP.out
                  have RA := hid (show 0 ≤ R ∧ R < Y from ⟨hRa, hRb⟩)
                  clear hRa hRb L2 G2
                  go_wp2
                  go_ret2
                  refine ⟨rfl, t, t2, R, rfl, RA.out.1, RA.out.2, by omega, by omega, by omega, by omega, ?_⟩
                  have e1 := HVd.out
                  have e0 := HRd.out
                  rw [e0, e1]
                  generalize Y = Yg
                  grind
                · go_wp2
                  go_round
                  case rel => exact ⟨m - 1, r2 + y1, rfl, rfl, by omega, by omega, by omega, by omega, G2.out⟩
                  case measure => simp [intOf]; omega
              · have L2 := hid (gs_low G0.out hYY.out (by rw [hp3]; omega))
                have G2 := G0
                obtain ⟨R, hR, hRa, hRb, HRd⟩ : ∃ R, IntKind.u64.wrap (IntKind.u64.wrap (IntKind.u64.wrap (V * 4294967296) + u0) - IntKind.u64.wrap (m * Y)) = R ∧ 0 ≤ R ∧ R < Y ∧ Hid (R = V * 4294967296 + u0 - m * Y) := ⟨_, (gs_rest V u0 Y (m) L2.out G2.out.up (by rw [hYY.out]; omega)).1, (gs_rest V u0 Y (m) L2.out G2.out.up (by rw [hYY.out]; omega)).2.1, (gs_rest V u0 Y (m) L2.out G2.out.up (by rw [hYY.out]; omega)).2.2, rfl⟩
                have ht0 : m < 4294967296 := gs_t L2.out (by have := HVb.out; exact this) u0b YP.out
                have RA := hid (show 0 ≤ R ∧ R < Y from ⟨hRa, hRb⟩)
                clear hRa hRb L2 G2
                go_wp2
                go_ret2
                refine ⟨rfl, t, m, R, rfl, RA.out.1, RA.out.2, by omega, by omega, by omega, by omega, ?_⟩
                have e1 := HVd.out
                have e0 := HRd.out
                rw [e0, e1]
                generalize Y = Yg
                grind
        · go_wp2
          go_round
          case rel => exact ⟨q - 1, r + y1, rfl, rfl, by omega, by omega, by omega, by omega, G1.out⟩
          case measure => simp [intOf]; omega
      · have L1 := hid (gs_low G.out hYY.out (by rw [hp]; omega))
        have G1 := G
        obtain ⟨V, hV, hVa, hVb, HVd⟩ : ∃ V, IntKind.u64.wrap (IntKind.u64.wrap (IntKind.u64.wrap (U * 4294967296) + u1) - IntKind.u64.wrap (q * Y)) = V ∧ 0 ≤ V ∧ V < Y ∧ Hid (V = U * 4294967296 + u1 - q * Y) := ⟨_, (gs_rest U u1 Y (q) L1.out G1.out.up (by rw [hYY.out]; omega)).1, (gs_rest U u1 Y (q) L1.out G1.out.up (by rw [hYY.out]; omega)).2.1, (gs_rest U u1 Y (q) L1.out G1.out.up (by rw [hYY.out]; omega)).2.2, rfl⟩
        have ht1 : q < 4294967296 := gs_t L1.out (by rw [hYY.out]; exact Ub) u1b YP.out
        have HVb := hid hVb
        rw [hYY.out] at hVb
        obtain ⟨k, hk⟩ : ∃ k, V / y1 = k := ⟨_, rfl⟩
        obtain ⟨p2, hp2⟩ : ∃ p2, k * y1 = p2 := ⟨_, rfl⟩
        have g := gs_start hVa hYY.out (by omega) y0a u0b
        rw [hk, hp2] at g
        have hk0 := g.q0
        have hr0 := g.r0
        have hkb := gs_q g HVb.out hYY.out y1a y0b
        have hr1 : V - p2 < y1 := by
          have := Int.emod_lt_of_pos V (show 0 < y1 by omega); have := Int.mul_ediv_add_emod V y1
          rw [hk, Int.mul_comm, hp2] at this; omega
        have hp2a : 0 ≤ p2 := by rw [← hp2]; exact Int.mul_nonneg hk0 (by omega)
        have hr2 : V - p2 < 4294967296 := by omega
        have GG := hid g
        clear g L1 G1
        go_wp2
        go_loop [16, 18] (fun d c => ∃ q r : Int, c = .int .u64 q ∧ d = .int .u64 r ∧ 0 ≤ q ∧ q ≤ 4294967297 ∧ 0 ≤ r ∧ r < 4294967296 ∧ Hid (Gs V u0 Y y1 y0 q r)) (fun _ c => (intOf c).toNat)
        case atStart => exact ⟨k, V - p2, rfl, rfl, hk0, hkb, hr0, hr2, GG.out⟩
        case round =>
          clear GG hr0 hr1 hr2 hp2a hkb hk0 hp2 hk
          obtain ⟨m, r2, rfl, rfl, m0a, m0b, r20a, r20b, G0⟩ := hrel
          by_cases hbig2 : 4294967296 ≤ m
          · have hc := gs_big (q := m) HVb.out u0b YP.out hbig2
            have G2 := hid (gs_step G0.out hc (by omega) (by omega))
            clear hc
            by_cases hbr : 4294967296 ≤ r2 + y1
            · obtain ⟨t2, rfl⟩ : ∃ t2, m = t2 + 1 := ⟨m - 1, by omega⟩
              rw [show t2 + 1 - 1 = t2 by omega] at G2
              have L2 := hid (gs_brk G2.out hYY.out (by omega) hbr y0a y0b u0a)
              obtain ⟨R, hR, hRa, hRb, HRd⟩ : ∃ R, IntKind.u64.wrap (IntKind.u64.wrap (IntKind.u64.wrap (V * 4294967296) + u0) - IntKind.u64.wrap (t2 * Y)) = R ∧ 0 ≤ R ∧ R < Y ∧ Hid (R = V * 4294967296 + u0 - t2 * Y) := ⟨_, (gs_rest V u0 Y (t2) L2.out G2.out.up (by rw [hYY.out]; omega)).1, (gs_rest V u0 Y (t2) L2.out G2.out.up (by rw [hYY.out]; omega)).2.1, (gs_rest V u0 Y (t2) L2.out G2.out.up (by rw [hYY.out]; omega)).2.2, rfl⟩
              have ht0 : t2 < 4294967296 := gs_t L2.out (by have := HVb.out; exact this) u0b YP.out
              have RA := hid (show 0 ≤ R ∧ R < Y from ⟨hRa, hRb⟩)
              clear hRa hRb L2 G2
              go_wp2
              go_ret2
              refine ⟨rfl, q, t2, R, rfl, RA.out.1, RA.out.2, by omega, by omega, by omega, by omega, ?_⟩
              have e1 := HVd.out
              have e0 := HRd.out
              rw [e0, e1]
              generalize Y = Yg
              grind
            · go_wp2
              go_round
              case rel => exact ⟨m - 1, r2 + y1, rfl, rfl, by omega, by omega, by omega, by omega, G2.out⟩
              case measure => simp [intOf]; omega
          · obtain ⟨p3, hp3⟩ : ∃ p3, m * y0 = p3 := ⟨_, rfl⟩
            have hp3a : 0 ≤ p3 := by rw [← hp3]; exact Int.mul_nonneg m0a y0a
            have hp3b : p3 < 18446744073709551616 := by
              rw [← hp3]
              have := Int.mul_le_mul (show m ≤ 4294967295 by omega) (show y0 ≤ 4294967295 by omega) y0a (by omega)
              omega
            by_cases hcd2 : 4294967296 * r2 + u0 < p3
            · have hc : V * 4294967296 + u0 < m * Y := by rw [gs_mul G0.out hYY.out, hp3]; omega
              have hqp := gs_pos (by omega) hc YP.out
              have G2 := hid (gs_step G0.out hc hqp (by omega))
              clear hc
              by_cases hbr : 4294967296 ≤ r2 + y1
              · obtain ⟨t2, rfl⟩ : ∃ t2, m = t2 + 1 := ⟨m - 1, by omega⟩
                rw [show t2 + 1 - 1 = t2 by omega] at G2
                have L2 := hid (gs_brk G2.out hYY.out (by omega) hbr y0a y0b u0a)
                obtain ⟨R, hR, hRa, hRb, HRd⟩ : ∃ R, IntKind.u64.wrap (IntKind.u64.wrap (IntKind.u64.wrap (V * 4294967296) + u0) - IntKind.u64.wrap (t2 * Y)) = R ∧ 0 ≤ R ∧ R < Y ∧ Hid (R = V * 4294967296 + u0 - t2 * Y) := ⟨_, (gs_rest V u0 Y (t2) L2.out G2.out.up (by rw [hYY.out]; omega)).1, (gs_rest V u0 Y (t2) L2.out G2.out.up (by rw [hYY.out]; omega)).2.1, (gs_rest V u0 Y (t2) L2.out G2.out.up (by rw [hYY.out]; omega)).2.2, rfl⟩
                have ht0 : t2 < 4294967296 := gs_t L2.out (by have := HVb.out; exact this) u0b YP.out
                have RA := hid (show 0 ≤ R ∧ R < Y from ⟨hRa, hRb⟩)
                clear hRa hRb L2 G2
                go_wp2
                go_ret2
                refine ⟨rfl, q, t2, R, rfl, RA.out.1, RA.out.2, by omega, by omega, by omega, by omega, ?_⟩
                have e1 := HVd.out
                have e0 := HRd.out
                rw [e0, e1]
                generalize Y = Yg
                grind
              · go_wp2
                go_round
                case rel => exact ⟨m - 1, r2 + y1, rfl, rfl, by omega, by omega, by omega, by omega, G2.out⟩
                case measure => simp [intOf]; omega
            · have L2 := hid (gs_low G0.out hYY.out (by rw [hp3]; omega))
              have G2 := G0
              obtain ⟨R, hR, hRa, hRb, HRd⟩ : ∃ R, IntKind.u64.wrap (IntKind.u64.wrap (IntKind.u64.wrap (V * 4294967296) + u0) - IntKind.u64.wrap (m * Y)) = R ∧ 0 ≤ R ∧ R < Y ∧ Hid (R = V * 4294967296 + u0 - m * Y) := ⟨_, (gs_rest V u0 Y (m) L2.out G2.out.up (by rw [hYY.out]; omega)).1, (gs_rest V u0 Y (m) L2.out G2.out.up (by rw [hYY.out]; omega)).2.1, (gs_rest V u0 Y (m) L2.out G2.out.up (by rw [hYY.out]; omega)).2.2, rfl⟩
              have ht0 : m < 4294967296 := gs_t L2.out (by have := HVb.out; exact this) u0b YP.out
              have RA := hid (show 0 ≤ R ∧ R < Y from ⟨hRa, hRb⟩)
              clear hRa hRb L2 G2
              go_wp2
              go_ret2
              refine ⟨rfl, q, m, R, rfl, RA.out.1, RA.out.2, by omega, by omega, by omega, by omega, ?_⟩
              have e1 := HVd.out
              have e0 := HRd.out
              rw [e0, e1]
              generalize Y = Yg
              grind
end Go.Proofs.YtedpomledbgpoaaGreat
namespace Go.Proofs.YtedpomledbgpoaaGreat
open Go.RowKit

theorem wraps_u64 (n : Int) (h0 : 0 ≤ n) (h1 : n < 2 ^ 64) : IntKind.u64.wrap n = n := by rw [IntKind.wrap_u64]; omega

theorem bitLen_bounds : ∀ (b x : Nat), Lib.bitLen x = b → 0 < x → x < 18446744073709551616 → 1 ≤ b ∧ 2 ^ (b - 1) ≤ x ∧ x < 2 ^ b := by
  intro b
  induction b with
  | zero =>
    intro x h h0 h1
    rw [Lib.bitLen_half x (by omega) (by omega)] at h
    omega
  | succ b ih =>
    intro x h h0 h1
    rw [Lib.bitLen_half x (by omega) (by omega)] at h
    by_cases hx : x = 1
    · subst hx
      have : b = 0 := by have h2 : Lib.bitLen (1 / 2) = 0 := by decide +kernel
                         omega
      subst this
      simp
    · obtain ⟨a1, a2, a3⟩ := ih (x / 2) (by omega) (by omega) (by omega)
      obtain ⟨c, rfl⟩ : ∃ c, b = c + 1 := ⟨b - 1, by omega⟩
      simp only [Nat.add_sub_cancel, Nat.pow_succ] at a2 a3 ⊢
      omega

/-- The numbers of Div64, put together. -/
theorem div64_nums (hi lo y : Int) (b : Nat) (h0 : 0 ≤ hi) (h1 : hi < y) (l0 : 0 ≤ lo) (l1 : lo < 18446744073709551616) (_b1 : 1 ≤ b) (_b2 : b ≤ 64) (p q : Int) (hp : p = 2 ^ (64 - b)) (hq : q = 2 ^ b) (hpq : p * q = 18446744073709551616) (p0 : 0 < p) (q0 : 0 < q) (ya : q ≤ 2 * y) (yb : y < q) :
    ∃ Y U L : Int, y * p = Y ∧ 9223372036854775808 ≤ Y ∧ Y < 18446744073709551616 ∧ bits BinOp.or .u64 (IntKind.u64.wrap (hi * p)) (lo / q) = U ∧ 0 ≤ U ∧ U < Y ∧ IntKind.u64.wrap (lo * p) = L ∧ 0 ≤ L ∧ L < 18446744073709551616 ∧ U * 18446744073709551616 + L = (hi * 18446744073709551616 + lo) * p := by
  have eY : y * p < q * p := (Int.mul_lt_mul_right p0).2 yb
  have eY2 : q * p ≤ 2 * y * p := Int.mul_le_mul_of_nonneg_right ya (Int.le_of_lt p0)
  rw [Int.mul_comm q p, hpq] at eY eY2
  have eH : hi * p < y * p := (Int.mul_lt_mul_right p0).2 h1
  have eH0 : 0 ≤ hi * p := Int.mul_nonneg h0 (Int.le_of_lt p0)
  have d0 : 0 ≤ lo / q := Int.ediv_nonneg l0 (Int.le_of_lt q0)
  have d1 : lo / q < p := by
    apply Int.ediv_lt_of_lt_mul q0
    rw [hpq]; exact l1
  have hw : IntKind.u64.wrap (hi * p) = hi * p := by rw [IntKind.wrap_u64]; omega
  have hor : bits BinOp.or .u64 (IntKind.u64.wrap (hi * p)) (lo / q) = hi * p + lo / q := by
    rw [hw]
    refine bits_join .u64 64 (by decide) wraps_u64 (64 - b) _ _ eH0 ?_ (by omega) d0 (by rw [← hp]; exact d1) ?_
    · rw [← hp]; exact Int.mul_emod_left _ _
    · have : p ≤ 18446744073709551616 := by rw [← hpq]; have := Int.mul_le_mul_of_nonneg_left (show (1 : Int) ≤ q by omega) (Int.le_of_lt p0); omega
      omega
  have e1 : lo * p / 18446744073709551616 = lo / q := by
    rw [← hpq, Int.mul_comm lo p]
    exact Int.mul_ediv_mul_of_pos _ _ p0
  have e2 := Int.mul_ediv_add_emod (lo * p) 18446744073709551616
  rw [e1] at e2
  have e3 : (hi * 18446744073709551616 + lo) * p = hi * p * 18446744073709551616 + lo * p := by rw [Int.add_mul]; congr 1; rw [Int.mul_assoc, Int.mul_comm 18446744073709551616 p, ← Int.mul_assoc]
  have e4 : (hi * p + lo / q) * 18446744073709551616 + (lo * p) % 18446744073709551616 = (hi * 18446744073709551616 + lo) * p := by rw [e3]; omega
  refine ⟨y * p, hi * p + lo / q, (lo * p) % 18446744073709551616, rfl, by rw [Int.mul_assoc] at eY2; omega, eY, hor, by omega, ?_, IntKind.wrap_u64 _, by omega, by omega, e4⟩
  have f1 : (hi * 18446744073709551616 + lo) * p < y * 18446744073709551616 * p := (Int.mul_lt_mul_right p0).2 (by omega)
  have f2 : y * 18446744073709551616 * p = y * p * 18446744073709551616 := by rw [Int.mul_assoc, Int.mul_comm 18446744073709551616 p, ← Int.mul_assoc]
  omega

/-- Quotient and rest, told by what they are. -/
theorem qr_unique {X y q r : Int} (h : X = q * y + r) (h0 : 0 ≤ r) (h1 : r < y) : X / y = q ∧ X % y = r := by
  have hy : 0 < y := by omega
  have e1 : X / y = q := by
    rw [h, Int.add_comm, Int.add_mul_ediv_right _ _ (by omega), Int.ediv_eq_zero_of_lt h0 h1]; omega
  refine ⟨e1, ?_⟩
  have := Int.mul_ediv_add_emod X y
  rw [e1, Int.mul_comm] at this
  omega

set_option maxHeartbeats 1000000 in
theorem div64_c (hi lo y : Int) (w : World) (h0 : 0 ≤ hi) (h1 : hi < y) (hy : y < 18446744073709551616) (l0 : 0 ≤ lo) (l1 : lo < 18446744073709551616) :
    Calls Tryz.prog 150 #[.int .u64 hi, .int .u64 lo, .int .u64 y] w fun e w' => e = .returned (.tuple #[.int .u64 ((hi * 18446744073709551616 + lo) / y), .int .u64 ((hi * 18446744073709551616 + lo) % y)]) ∧ ∃ n, w' = w.drewN n := by
  by_cases hz : hi = 0
  · subst hz
    have e0 : 0 * 18446744073709551616 + lo = lo := by omega
    rw [e0]
    have b0 : 0 ≤ lo / y := Int.ediv_nonneg l0 (by omega)
    have b1 : lo / y ≤ lo := Int.ediv_le_self y l0
    have b2 := Int.emod_nonneg lo (show y ≠ 0 by omega)
    have b3 := Int.emod_lt_of_pos lo (show 0 < y by omega)
    go_enter Tryz.func150, Tryz.ntmps150
    go_wp2
    go_quiet (fail)
    go_wp2
    go_ret2
    exact ⟨rfl, _, rfl⟩
  · obtain ⟨yn, rfl⟩ := Int.eq_ofNat_of_zero_le (show 0 ≤ y by omega)
    obtain ⟨b, hb⟩ : ∃ b, Lib.bitLen yn = b := ⟨_, rfl⟩
    obtain ⟨b1, b2, b3⟩ := bitLen_bounds b yn hb (by omega) (by omega)
    have b64 : b ≤ 64 := by rw [← hb]; exact Lib.bitLen_le yn 64 (by omega) (by omega)
    have hls := Tryz.bits_LeadingZeros64 (yn : Int) w (by omega) (by omega)
    rw [Int.toNat_natCast, hb] at hls
    have hp64 : (2 : Int) ^ (64 - b) * 2 ^ b = 18446744073709551616 := by rw [← Int.pow_add, show 64 - b + b = 64 by omega]; rfl
    have hya : (2 : Int) ^ b ≤ 2 * (yn : Int) := by
      have : 2 ^ b = 2 ^ (b - 1) * 2 := by rw [← Nat.pow_succ, show (b - 1).succ = b by omega]
      have h2 : 2 ^ b ≤ 2 * yn := by omega
      exact_mod_cast h2
    have hyb : (yn : Int) < 2 ^ b := by exact_mod_cast b3
    obtain ⟨Y, U, L, e1, c1, c2, e2, c3, c4, e3, c5, c6, e4⟩ := div64_nums hi lo yn b h0 h1 l0 l1 b1 b64 (2 ^ (64 - b)) (2 ^ b) rfl rfl hp64 (Int.pow_pos (by decide)) (Int.pow_pos (by decide)) hya hyb
    have es : (64 - (b : Int)).toNat = 64 - b := by omega
    have eb : (64 - (64 - (b : Int))).toNat = b := by omega
    have hand : ∀ z : Int, 0 ≤ z → z < 18446744073709551616 → bits BinOp.and .u64 z 4294967295 = z % 4294967296 := fun z z0 z1 => bits_mask .u64 64 (by decide) wraps_u64 32 (by decide) z z0 z1
    refine (div64_core hi lo yn (64 - (b : Int)) Y (Y / 4294967296) (Y % 4294967296) U L (L / 4294967296) (L % 4294967296) w (by omega) h1 hy l0 l1 (by omega) (by omega) hls
      (by rw [es, e1, IntKind.wrap_u64]; omega) rfl (hand Y (by omega) (by omega)) (by rw [es, eb]; exact e2) (by rw [es]; exact e3) rfl (hand L c5 c6) (by omega) (by omega) (by omega) (by omega) (by omega) (by omega) (by omega) (by omega) c3 (by omega) (show Y = _ by omega)).mono ?_
    rintro e w' ⟨rfl, q1, q0, R, rfl, r0, r1, _, _, _, _, hfin⟩
    refine ⟨?_, 0, rfl⟩
    rw [es]
    have f1 : (U * 4294967296 + L / 4294967296) * 4294967296 + L % 4294967296 = U * 18446744073709551616 + L := by omega
    rw [f1, e4, ← e1] at hfin
    have P0 : (0 : Int) < 2 ^ (64 - b) := Int.pow_pos (by decide)
    generalize (2 : Int) ^ (64 - b) = P at *
    have f2 : R = (hi * 18446744073709551616 + lo - (q1 * 4294967296 + q0) * yn) * P := by
      rw [Int.sub_mul, Int.mul_assoc (q1 * 4294967296 + q0)]; omega
    have f3 : R / P = hi * 18446744073709551616 + lo - (q1 * 4294967296 + q0) * yn := by rw [f2]; exact Int.mul_ediv_cancel _ (by omega)
    have f4 : 0 ≤ hi * 18446744073709551616 + lo - (q1 * 4294967296 + q0) * yn := by
      rw [← f3]; exact Int.ediv_nonneg r0 (Int.le_of_lt P0)
    have f5 : hi * 18446744073709551616 + lo - (q1 * 4294967296 + q0) * yn < yn := by
      have : (hi * 18446744073709551616 + lo - (q1 * 4294967296 + q0) * yn) * P < yn * P := by rw [← f2, e1]; exact r1
      exact Int.lt_of_mul_lt_mul_right this (Int.le_of_lt P0)
    obtain ⟨g1, g2⟩ := qr_unique (X := hi * 18446744073709551616 + lo) (y := yn) (q := q1 * 4294967296 + q0) (r := hi * 18446744073709551616 + lo - (q1 * 4294967296 + q0) * yn) (by omega) f4 f5
    rw [g1, g2, f3]
end Go.Proofs.YtedpomledbgpoaaGreat
namespace Go.Proofs.YtedpomledbgpoaaGreat
open Go.RowKit

theorem lm_zero (n : Nat) : Lm (fun _ => 0) n := fun _ _ => ⟨Int.le_refl 0, (by decide : (0 : Int) < 18446744073709551616)⟩
theorem vf_cons (f : Nat → Int) (m i : Nat) : vf (sh f m) (i + 1) = f m + 18446744073709551616 * vf (sh f (m + 1)) i := by
  rw [Nat.add_comm i 1, vf_split (sh f m) 1 i, sh_sh]
  have e1 : vf (sh f m) 1 = f m := by simp [vf, pw, sh]
  have e2 : pw 1 = 18446744073709551616 := by simp [pw]
  rw [e1, e2]; omega

theorem divw_step {f q q' : Nat → Int} {k i : Nat} {r wd : Int} (HV : vf (sh f (k + 1)) i = vf (sh q (k + 1)) i * wd + r) (hq : ∀ j, k < j → q' j = q j) (hk : q' k = (r * 18446744073709551616 + f k) / wd) :
    vf (sh f k) (i + 1) = vf (sh q' k) (i + 1) * wd + (r * 18446744073709551616 + f k) % wd := by
  have e1 : vf (sh q' (k + 1)) i = vf (sh q (k + 1)) i := vf_congr (fun j hj => hq _ (by omega))
  rw [vf_cons, vf_cons, e1, HV, hk]
  have e2 := Int.mul_ediv_add_emod (r * 18446744073709551616 + f k) wd
  generalize (r * 18446744073709551616 + f k) / wd = Q at *
  generalize (r * 18446744073709551616 + f k) % wd = R at *
  grind

set_option maxRecDepth 100000 in
set_option maxHeartbeats 1000000 in
theorem divWord_c (ao : Option Addr) (n cap : Nat) (f : Nat → Int) (wd : Int) (w : World) (hn : n ≤ 17592186044416) (hr : Rd .u64 w ao n f) (hf : Lm f n) (w0 : 0 < wd) (w1 : wd < 18446744073709551616) :
    Calls Tryz.prog 142 #[.slice ao n cap, .int .u64 wd] w fun e w' => ∃ ao' k cap' q r, e = .returned (.tuple #[.slice ao' k cap', .int .u64 r]) ∧ Res n w w' ao' k cap' q ∧ 0 ≤ r ∧ r < wd ∧ vf f n = vf q k * wd + r := by
  have HR := hid hr
  have HF := hid hf
  clear hr hf
  go_enter Tryz.func142, Tryz.ntmps142
  go_wp2_with (at_make; refine wpList_make_blk .u64 w rfl (.tmp 11) (.tmp 11) 22 rfl 83 8 Tryz.underlying22 Tryz.infoU64 .i64 .i64 n n n rfl rfl rfl rfl (by omega) (by unfold maxLen; omega) ?_; intro wa hba hbela)
  go_loopw [7, 15] (fun c t wr => ∃ (i : Nat) (r : Int) (q : Nat → Int), i ≤ n ∧ t = .int .i64 i ∧ c = .int .u64 r ∧ 0 ≤ r ∧ r < wd ∧ Below w.heap.size w wr ∧ Blk .u64 83 wr w.heap.size n q ∧ Hid (Lm q n) ∧ Hid (vf (sh f (n - i)) i = vf (sh q (n - i)) i * wd + r)) (fun _ t _ => n - (intOf t).toNat)
  case atStart => exact ⟨0, 0, fun _ => 0, by omega, rfl, rfl, by omega, w0, hbela, hba, lm_zero n, by simp [Hid, vf]⟩
  case round =>
    clear hba hbela
    obtain ⟨i, r, q, hi, rfl, rfl, r0, r1, hbel, hbl, HL, HV⟩ := hrel
    by_cases hlt : i < n
    · have hr := HR.out
      obtain ⟨b, o, rfl⟩ := hr.at (by omega)
      obtain ⟨k, hk⟩ : ∃ k, k = n - 1 - i := ⟨_, rfl⟩
      have hk1 : n - i = k + 1 := by omega
      have hk2 : k < n := by omega
      obtain ⟨x, hx⟩ : ∃ x, f k = x := ⟨_, rfl⟩
      have hcell : wr.cell? ⟨b, o + (n - 1 - i), none⟩ = some (.int .u64 x) := by rw [← hk, ← hx]; exact (hr.below hbel (Nat.le_refl _)).cell hk2
      have hcelq := hbl.cell (j := n - 1 - i) (by omega)
      have hfz := hbl.frozen (n - 1 - i)
      obtain ⟨x0, x1⟩ := HF.out k hk2
      rw [hx] at x0 x1
      have HX := hid hx
      have HK := hid hk
      have HK1 := hid hk1
      clear hx hk hk1 hr
      obtain ⟨Q, hQ⟩ : ∃ Q, (r * 18446744073709551616 + x) / wd = Q := ⟨_, rfl⟩
      obtain ⟨R, hR⟩ : ∃ R, (r * 18446744073709551616 + x) % wd = R := ⟨_, rfl⟩
      have c1 := fun w => div64_c r x wd w r0 r1 w1 x0 x1
      have hR0 : 0 ≤ R := by rw [← hR]; exact Int.emod_nonneg _ (by omega)
      have hR1 : R < wd := by rw [← hR]; exact Int.emod_lt_of_pos _ w0
      have hQ0 : 0 ≤ Q := by rw [← hQ]; exact Int.ediv_nonneg (by omega) (by omega)
      have hQ1 : Q < 18446744073709551616 := by
        rw [← hQ]
        apply Int.ediv_lt_of_lt_mul w0
        have : (r + 1) * 18446744073709551616 ≤ wd * 18446744073709551616 := Int.mul_le_mul_of_nonneg_right (by omega) (by decide)
        rw [Int.mul_comm 18446744073709551616 wd]
        omega
      rw [hQ, hR] at c1
      have C1 := hid c1
      have HQ := hid hQ
      have HRR := hid hR
      clear c1 hQ hR
      go_wp2_with fail
      refine (C1.out _).mono ?_
      rintro e wx ⟨rfl, nq, rfl⟩
      go_wp2
      go_roundw
      case rel =>
        refine ⟨i + 1, R, upd q (n - 1 - i) Q, by omega, by go_num, rfl, hR0, hR1, ?_, ?_, HL.out.upd ⟨hQ0, hQ1⟩, ?_⟩
        · exact (below_drewN hbel nq).setCell (Nat.le_refl _) _
        · exact Blk.set (show Blk .u64 83 (wr.drewN nq) w.heap.size n q from hbl) _ _
        · have e1 : n - (i + 1) = k := by have := HK1.out; omega
          have hv := HV.out
          rw [HK1.out] at hv
          have := divw_step (q' := upd q k Q) hv (fun j hj => upd_other _ _ _ _ (by omega)) (by rw [upd_same, HX.out, HQ.out])
          rw [HX.out, HRR.out] at this
          rw [e1, ← HK.out]
          exact this
      case measure => simp [intOf]; omega
    · have hin : i = n := by omega
      subst hin
      have hv : vf f i = vf q i * wd + r := by have := HV.out; rwa [Nat.sub_self, sh_zero, sh_zero] at this
      have HV2 := hid hv
      clear hv
      go_wp2_with fail
      refine (trim_res w.heap.size i i q w wr hbel (Nat.le_refl _) hbl (Nat.le_refl _) (by omega) HL.out).mono ?_
      rintro e w3 ⟨rfl, ao', k, cap', rfl, hres, hkn, hvt⟩
      have HVT := hid hvt
      clear hvt
      go_wp2
      go_ret2
      exact ⟨ao', k, cap', q, r, rfl, hres, r0, r1, by rw [HVT.out]; exact HV2.out⟩

theorem modw_step {f : Nat → Int} {k i : Nat} {r wd : Int} (HV : vf (sh f (k + 1)) i % wd = r) : vf (sh f k) (i + 1) % wd = (r * 18446744073709551616 + f k) % wd := by
  rw [vf_cons, ← HV, Int.add_comm (f k), Int.mul_comm]
  simp [Int.add_emod, Int.mul_emod]

set_option maxHeartbeats 1000000 in
theorem modWord_c (ao : Option Addr) (n cap : Nat) (f : Nat → Int) (wd : Int) (w : World) (hn : n ≤ 17592186044416) (hr : Rd .u64 w ao n f) (hf : Lm f n) (w0 : 0 < wd) (w1 : wd < 18446744073709551616) :
    Calls Tryz.prog 141 #[.slice ao n cap, .int .u64 wd] w fun e w' => e = .returned (.int .u64 (vf f n % wd)) ∧ ∃ q, w' = w.drewN q := by
  have HR := hid hr
  have HF := hid hf
  clear hr hf
  go_enter Tryz.func141, Tryz.ntmps141
  go_wp2
  go_loopw [5, 9] (fun c t wr => ∃ (i : Nat) (r : Int), i ≤ n ∧ t = .int .i64 i ∧ c = .int .u64 r ∧ 0 ≤ r ∧ r < wd ∧ (∃ q, wr = w.drewN q) ∧ Hid (vf (sh f (n - i)) i % wd = r)) (fun _ t _ => n - (intOf t).toNat)
  case atStart => exact ⟨0, 0, by omega, rfl, rfl, by omega, w0, ⟨0, rfl⟩, by simp [Hid, vf]⟩
  case round =>
    obtain ⟨i, r, hi, rfl, rfl, r0, r1, ⟨q, rfl⟩, HV⟩ := hrel
    by_cases hlt : i < n
    · have hr := HR.out
      obtain ⟨b, o, rfl⟩ := hr.at (by omega)
      obtain ⟨k, hk⟩ : ∃ k, k = n - 1 - i := ⟨_, rfl⟩
      have hk1 : n - i = k + 1 := by omega
      have hk2 : k < n := by omega
      obtain ⟨x, hx⟩ : ∃ x, f k = x := ⟨_, rfl⟩
      have hcell : w.cell? ⟨b, o + (n - 1 - i), none⟩ = some (.int .u64 x) := by rw [← hk, ← hx]; exact hr.cell hk2
      obtain ⟨x0, x1⟩ := HF.out k hk2
      rw [hx] at x0 x1
      have HX := hid hx
      have HK := hid hk
      have HK1 := hid hk1
      clear hx hk hk1 hr
      obtain ⟨R, hR⟩ : ∃ R, (r * 18446744073709551616 + x) % wd = R := ⟨_, rfl⟩
      have c1 := fun w => div64_c r x wd w r0 r1 w1 x0 x1
      have hR0 : 0 ≤ R := by rw [← hR]; exact Int.emod_nonneg _ (by omega)
      have hR1 : R < wd := by rw [← hR]; exact Int.emod_lt_of_pos _ w0
      rw [hR] at c1
      have C1 := hid c1
      have HRR := hid hR
      clear c1 hR
      go_wp2_with fail
      refine (C1.out _).mono ?_
      rintro e wx ⟨rfl, nq, rfl⟩
      go_wp2
      go_roundw
      case rel =>
        refine ⟨i + 1, R, by omega, by go_num, rfl, hR0, hR1, ⟨_, by (repeat rw [World.drewN_drewN]) <;> rfl⟩, ?_⟩
        have e1 : n - (i + 1) = k := by have := HK1.out; omega
        have hv := HV.out
        rw [HK1.out] at hv
        have := modw_step (k := k) (i := i) (r := r) hv
        rw [HX.out, HRR.out] at this
        rw [e1]
        exact this
      case measure => simp [intOf]; omega
    · have hin : i = n := by omega
      subst hin
      have hv : vf f i % wd = r := by have := HV.out; rwa [Nat.sub_self, sh_zero] at this
      have HV2 := hid hv
      clear hv
      go_wp2
      go_ret
      exact ⟨by rw [HV2.out]; rfl, q, rfl⟩

set_option maxHeartbeats 1000000 in
theorem gcdWord_c (a b : Nat) (w : World) (ha : a < 18446744073709551616) (hb : b < 18446744073709551616) :
    Calls Tryz.prog 140 #[.int .u64 a, .int .u64 b] w fun e w' => e = .returned (.int .u64 (Nat.gcd a b : Nat)) ∧ ∃ q, w' = w.drewN q := by
  go_enter Tryz.func140, Tryz.ntmps140
  go_wp2
  go_loopw [0, 1] (fun c d wr => ∃ (x y : Nat), c = .int .u64 x ∧ d = .int .u64 y ∧ x < 18446744073709551616 ∧ y < 18446744073709551616 ∧ (∃ q, wr = w.drewN q) ∧ Hid (Nat.gcd x y = Nat.gcd a b)) (fun _ d _ => (intOf d).toNat)
  case atStart => exact ⟨a, b, rfl, rfl, ha, hb, ⟨0, rfl⟩, rfl⟩
  case round =>
    obtain ⟨x, y, rfl, rfl, hx, hy, ⟨q, rfl⟩, HV⟩ := hrel
    by_cases h0 : y = 0
    · subst h0
      have hg : x = Nat.gcd a b := by have := HV.out; rwa [Nat.gcd_zero_right] at this
      have HG := hid hg
      clear hg
      go_wp2
      go_ret
      exact ⟨by rw [← HG.out]; rfl, q, rfl⟩
    · have h1 : ((y : Int) != 0) = true := by simp; omega
      have h2 : (0 : Int) < y := by omega
      have h3 : (x : Int) % y < y := Int.emod_lt_of_pos _ h2
      have h4 : 0 ≤ (x : Int) % y := Int.emod_nonneg _ (by omega)
      have h5 : x % y < y := Nat.mod_lt _ (by omega)
      have H5 := hid h5
      clear h5
      go_wp2
      go_quiet (fail)
      go_wp2
      go_roundw
      case rel => exact ⟨y, x % y, rfl, by go_num, hy, by have := H5.out; omega, ⟨_, by (repeat rw [World.drewN_drewN]) <;> rfl⟩, by have := HV.out; rw [Nat.gcd_comm y, ← Nat.gcd_rec y x, Nat.gcd_comm]; exact this⟩
      case measure => simp [intOf]; exact H5.out
end Go.Proofs.YtedpomledbgpoaaGreat
namespace Go.Proofs.YtedpomledbgpoaaGreat
open Go.RowKit

set_option maxRecDepth 100000 in
set_option maxHeartbeats 400000 in
/-- Word: the digits of a number below 2^32. -/
theorem word_c (x : Int) (w : World) (x0 : 0 ≤ x) (x1 : x < 4294967296) :
    Calls Tryz.prog 86 #[.int .u64 x] w fun e w' => ∃ k, e = .returned (.slice (some ⟨w.heap.size, 0, none⟩) k 2) ∧ Below w.heap.size w w' ∧ k ≤ 1 ∧ Rd .u64 w' (some ⟨w.heap.size, 0, none⟩) k (fun _ => x) ∧ (k = 0 → x = 0) ∧ Fm (fun _ => x) k := by
  have hr := rd_new2 w 83 x
  have m1 : x % 4294967296 = x := by omega
  have m2 : x / 4294967296 = 0 := by omega
  rw [m1, m2] at hr
  have HR := hid hr
  clear hr
  go_enter Tryz.func86, Tryz.ntmps86
  go_wp2_with fail
  refine (low_c (some ⟨w.heap.size, 0, none⟩) 2 2 (two32 x) _ (by omega) (by omega) HR.out (fun h => by cases h)).mono ?_
  rintro e w1 ⟨rfl, k, hk, hz, hfm, rfl⟩
  have hk1 : k ≤ 1 := by
    rcases hfm with h | h
    · omega
    · apply Nat.le_of_not_lt; intro h2
      obtain rfl : k = 2 := by omega
      exact h (by simp [two32, m2])
  have hx0 : k = 0 → x = 0 := fun h => by
    have := hz 0 (by omega) (by omega)
    simp [two32, m1] at this
    exact this
  have hr1 : ∀ j, j < k → two32 x j = x := by
    intro j hj
    obtain rfl : j = 0 := by omega
    simp [two32, m1]
  have hf1 : Fm (fun _ => x) k := by
    rcases hfm with h | h
    · exact .inl h
    · by_cases h0 : k = 0
      · exact .inl h0
      · right; rw [hr1 _ (by omega)] at h; exact h
  have HR1 := hid hr1; have HX0 := hid hx0; have HF1 := hid hf1
  clear hz hfm hr1 hx0 hf1
  go_wp2
  go_ret
  exact ⟨k, rfl, (Below.refl _ _).alloc (Nat.le_refl _) _, hk1, (HR.out.take hk).congr HR1.out, HX0.out, HF1.out⟩

end Go.Proofs.YtedpomledbgpoaaGreat
namespace Go.Proofs.YtedpomledbgpoaaGreat
open Go.RowKit

end Go.Proofs.YtedpomledbgpoaaGreat
namespace Go.Proofs.YtedpomledbgpoaaGreat
open Go.RowKit

/-- Digits in form that can be read, with their number. -/
structure Dn (w : World) (x : Option Addr) (n : Nat) (d : Nat → Int) (V : Nat) : Prop where
  rd : Rd .u64 w x n d
  dg : Dg d n
  fm : Fm d n
  val : vd d n = V
theorem Dn.below {w w' x n d V} (h : Dn w x n d V) (hb : Below w.heap.size w w') : Dn w' x n d V := ⟨h.rd.below hb (Nat.le_refl _), h.dg, h.fm, h.val⟩
theorem Dn.alloc {w x n d V} (h : Dn w x n d V) (o : Obj) : Dn (w.alloc o) x n d V := ⟨h.rd.below ((Below.refl _ _).alloc (Nat.le_refl _) o) (Nat.le_refl _), h.dg, h.fm, h.val⟩
theorem Dn.next {w w' x n d V} {o : Obj} (h : Dn w x n d V) (hb : Below (w.alloc o).heap.size (w.alloc o) w') : Dn w' x n d V := (h.alloc o).below hb
theorem Dn.drew {w x n d V} (h : Dn w x n d V) : Dn w.drew x n d V := ⟨h.rd, h.dg, h.fm, h.val⟩
theorem Dn.pos {w x n d V} (h : Dn w x n d V) (hV : 0 < V) : 0 < n := by
  rcases Nat.eq_zero_or_pos n with h0 | h0
  · subst h0; have : (0 : Int) = V := h.val; omega
  · exact h0
theorem Dn.zero {w x d V} (h : Dn w x 0 d V) : V = 0 := by have : (0 : Int) = V := h.val; omega
theorem Dn.pos' {w x n d V} (h : Dn w x n d V) (hn : 0 < n) : 0 < V := by
  have h1 := vd_form_ge h.dg h.fm hn
  have h2 := pd_pos (n - 1)
  rw [h.val] at h1
  omega
end Go.Proofs.YtedpomledbgpoaaGreat
namespace Go.Proofs.YtedpomledbgpoaaGreat
open Go.RowKit

/-- A limb times P, cut in two (P * Q = 2^64). -/
theorem limb_cut {x P Q : Int} (x0 : 0 ≤ x) (x1 : x < 18446744073709551616) (hPQ : P * Q = 18446744073709551616) (p0 : 0 < P) (q0 : 0 < Q) :
    (x * P) % 18446744073709551616 = (x % Q) * P ∧ 0 ≤ x / Q ∧ x / Q < P ∧ 0 ≤ (x % Q) * P ∧ (x % Q) * P ≤ 18446744073709551616 - P := by
  have e1 : (x * P) % 18446744073709551616 = (x % Q) * P := by rw [← hPQ, Int.mul_comm x P, Int.mul_emod_mul_of_pos _ _ p0, Int.mul_comm]
  refine ⟨e1, Int.ediv_nonneg x0 (Int.le_of_lt q0), ?_, Int.mul_nonneg (Int.emod_nonneg _ (by omega)) (Int.le_of_lt p0), ?_⟩
  · exact Int.ediv_lt_of_lt_mul q0 (by rw [hPQ]; exact x1)
  · have h1 := Int.emod_lt_of_pos x q0
    have h2 : (x % Q + 1) * P ≤ Q * P := Int.mul_le_mul_of_nonneg_right (by omega) (Int.le_of_lt p0)
    rw [Int.add_mul, Int.one_mul, Int.mul_comm Q P, hPQ] at h2
    omega

/-- One round of a shift to the left. -/
theorem shl_step {F a : Nat → Int} {o k : Nat} {P Q x y : Int} (hv : vf (sh F o) (k + 1) = vf a k * P) (hx : a k = x) (hy : F (o + k) = y) (hPQ : P * Q = 18446744073709551616) :
    vf (sh (upd (upd F (o + k) (y + x % Q * P)) (o + k + 1) (x / Q)) o) (k + 1 + 1) = vf a (k + 1) * P := by
  have e1 : vf (sh (upd (upd F (o + k) (y + x % Q * P)) (o + k + 1) (x / Q)) o) k = vf (sh F o) k := vf_congr (fun j hj => by rw [sh_at, sh_at, upd_other _ _ _ _ (by omega), upd_other _ _ _ _ (by omega)])
  have e2 : sh (upd (upd F (o + k) (y + x % Q * P)) (o + k + 1) (x / Q)) o k = y + x % Q * P := by rw [sh_at, upd_other _ _ _ _ (by omega), upd_same]
  have e3 : sh (upd (upd F (o + k) (y + x % Q * P)) (o + k + 1) (x / Q)) o (k + 1) = x / Q := by rw [sh_at, ← Nat.add_assoc, upd_same]
  rw [vf_succ, vf_succ, e1, e2, e3, vf_succ, pw_succ]
  rw [vf_succ, sh_at, hy] at hv
  have e4 := Int.mul_ediv_add_emod x Q
  rw [hx, ← hPQ]
  have e5 : x * pw k * P = (Q * (x / Q) + x % Q) * pw k * P := by rw [e4]
  rw [Int.add_mul (vf a k), e5, ← hv]
  grind

/-- What a list reads from place o on, noughts ahead of it. -/
theorem vf_ahead {F : Nat → Int} {o n : Nat} (h : ∀ j, j < o → F j = 0) : vf F (o + n) = vf (sh F o) n * pw o := by
  rw [vf_split, vf_zero h]; omega

end Go.Proofs.YtedpomledbgpoaaGreat
namespace Go.Proofs.YtedpomledbgpoaaGreat
open Go.RowKit

theorem dWord_c {w : World} {V : Nat} (hV : V < 4294967296) :
    Calls Tryz.prog 86 #[.int .u64 (V : Int)] w fun e w' => ∃ z k c d, e = .returned (.slice z k c) ∧ Below w.heap.size w w' ∧ Hid (k ≤ 1 ∧ Dn w' z k d V) :=
  (word_c V w (by omega) (by omega)).mono (fun _ _ ⟨k, h1, h2, h3, h4, h5, h6⟩ => ⟨_, k, 2, _, h1, h2, h3, h4, fun j hj => ⟨by omega, by omega⟩, h6, by
    rcases (show k = 0 ∨ k = 1 by omega) with h | h
    · subst h; have := h5 rfl; simp [vd]; omega
    · subst h; simp [vd, pd]⟩)
theorem Dn.len {w x n d A y m g B} (ha : Dn w x n d A) (hb : Dn w y m g B) (hle : A ≤ B) : n ≤ m := vd_len ha.dg hb.dg ha.fm (by rw [ha.val, hb.val]; omega)
end Go.Proofs.YtedpomledbgpoaaGreat
namespace Go.Proofs.YtedpomledbgpoaaGreat
open Go.RowKit

theorem or_comm64 (x y : Int) : bits BinOp.or .u64 x y = bits BinOp.or .u64 y x := by simp only [bits]; rw [BitVec.or_comm]

/-- The numbers of one round of shl. -/
theorem shl_nums (x y s : Int) (x0 : 0 ≤ x) (x1 : x < 18446744073709551616) (s0 : 0 ≤ s) (s1 : s ≤ 63) (y0 : 0 ≤ y) (y1 : y < 2 ^ s.toNat) :
    ∃ L Z H, IntKind.u64.wrap (x * 2 ^ s.toNat) = L ∧ 0 ≤ L ∧ L < 18446744073709551616 ∧ bits BinOp.or .u64 y L = Z ∧ 0 ≤ Z ∧ Z < 18446744073709551616 ∧ x / 2 ^ (64 - s).toNat = H ∧ 0 ≤ H ∧ H < 18446744073709551616 ∧ Hid (H < 2 ^ s.toNat) ∧ Hid (Z = y + x % 2 ^ (64 - s).toNat * 2 ^ s.toNat) := by
  have hPQ : (2 : Int) ^ s.toNat * 2 ^ (64 - s).toNat = 18446744073709551616 := by rw [← Int.pow_add, show s.toNat + (64 - s).toNat = 64 by omega]; rfl
  have p0 : (0 : Int) < 2 ^ s.toNat := Int.pow_pos (by decide)
  have q0 : (0 : Int) < 2 ^ (64 - s).toNat := Int.pow_pos (by decide)
  obtain ⟨c1, c2, c3, c4, c5⟩ := limb_cut x0 x1 hPQ p0 q0
  have hP : (2 : Int) ^ s.toNat ≤ 18446744073709551616 := by
    rw [← hPQ]
    have := Int.mul_le_mul_of_nonneg_left (show (1 : Int) ≤ 2 ^ (64 - s).toNat by omega) (Int.le_of_lt p0)
    omega
  have hL : IntKind.u64.wrap (x * 2 ^ s.toNat) = x % 2 ^ (64 - s).toNat * 2 ^ s.toNat := by rw [IntKind.wrap_u64, c1]
  refine ⟨_, _, _, hL, c4, by omega, ?_, ?_, ?_, rfl, c2, by omega, c3, rfl⟩
  · rw [or_comm64 y, bits_join .u64 64 (by decide) wraps_u64 s.toNat _ _ c4 (Int.mul_emod_left _ _) (by omega) y0 y1 (by omega), Int.add_comm]
  · omega
  · omega

set_option maxRecDepth 100000 in
set_option maxHeartbeats 1000000 in
/-- shl: a * 2^(64 * skip + s). -/
theorem shl_c (ao : Option Addr) (n cap skip : Nat) (z s : Int) (f : Nat → Int) (w : World) (hn : n ≤ 8796093022208) (hk : skip ≤ 1048576) (s0 : 0 ≤ s) (s1 : s ≤ 63) (hz : z = 64 * skip + s) (hr : Rd .u64 w ao n f) (hf : Lm f n) :
    Calls Tryz.prog 152 #[.slice ao n cap, .int .i64 z] w fun e w' => ∃ ao' m cap' f', e = .returned (.slice ao' m cap') ∧ Res (skip + n + 1) w w' ao' m cap' f' ∧ vf f' m = vf f n * 2 ^ s.toNat * pw skip := by
  have HF := hid hf
  have HRd := hid hr
  clear hf hr
  have z0 : 0 ≤ z := by omega
  have z1 : z ≤ 67108927 := by omega
  have h1 : z / 64 = (skip : Int) := by omega
  have h2 : z % 64 = s := by omega
  have h3 : Int.tdiv z 64 = (skip : Int) := by rw [Int.tdiv_eq_ediv_of_nonneg z0]; exact h1
  have h4 : Int.tmod z 64 = s := by rw [Int.tmod_eq_emod_of_nonneg z0]; exact h2
  clear hz
  go_enter Tryz.func152, Tryz.ntmps152
  go_wp2_with (at_make; refine wpList_make_blk .u64 w rfl (.tmp 17) (.tmp 17) 22 rfl 83 8 Tryz.underlying22 Tryz.infoU64 .i64 .i64 _ _ (skip + n + 1) rfl rfl (by omega) (by omega) (by omega) (by unfold maxLen; omega) ?_; intro w1 hb1 hbel1)
  go_loopw [21] (fun t wr => ∃ (k : Nat) (F : Nat → Int), k ≤ n ∧ t = .int .i64 k ∧ Below w.heap.size w wr ∧ Blk .u64 83 wr w.heap.size (skip + n + 1) F ∧ Hid (Lm F (skip + n + 1)) ∧ Hid (∀ j, j < skip ∨ skip + k < j → F j = 0) ∧ Hid (F (skip + k) < 2 ^ s.toNat) ∧ Hid (vf (sh F skip) (k + 1) = vf f k * 2 ^ s.toNat)) (fun t _ => n - (intOf t).toNat)
  case atStart => exact ⟨0, fun _ => 0, by omega, rfl, hbel1, hb1, fun j hj => ⟨Int.le_refl 0, show (0 : Int) < 18446744073709551616 by decide⟩, fun j hj => rfl, Int.pow_pos (by decide), by simp [Hid, vf, sh]⟩
  case round =>
    clear hb1 hbel1
    obtain ⟨k, F, hkn, rfl, hbel, hbl, HL, HZ, HT, HV⟩ := hrel
    by_cases hlt : k < n
    · have hr := HRd.out
      obtain ⟨b, ob, rfl⟩ := hr.at (by omega)
      obtain ⟨y, hy⟩ : ∃ y, F (skip + k) = y := ⟨_, rfl⟩
      obtain ⟨x, hx⟩ : ∃ x, f k = x := ⟨_, rfl⟩
      have hcell : wr.cell? ⟨w.heap.size, skip + k, none⟩ = some (.int .u64 y) := by rw [← hy]; exact hbl.cell (by omega)
      have hcelb : wr.cell? ⟨b, ob + k, none⟩ = some (.int .u64 x) := by rw [← hx]; exact (hr.below hbel (Nat.le_refl _)).cell hlt
      have hbw : b < w.heap.size := World.block_lt_of_cell? w _ (hr.cell hlt)
      have hfz := hbl.frozen (skip + k)
      have hfz2 := hbl.frozen (skip + k + 1)
      obtain ⟨y0, y1⟩ := HL.out (skip + k) (by omega)
      obtain ⟨x0, x1⟩ := HF.out k hlt
      rw [hx] at x0 x1
      rw [hy] at y0 y1
      obtain ⟨L, Z, H, eL, L0, L1, eZ, Z0, Z1, eH, H0, H1, HH, HZ2⟩ := shl_nums x y s x0 x1 s0 s1 y0 (by rw [← hy]; exact HT.out)
      have HX := hid hx
      have HY := hid hy
      clear hx hy hr
      have hcelb2 : ∀ (v : Value), (wr.setCell ⟨w.heap.size, skip + k, none⟩ v).cell? ⟨b, ob + k, none⟩ = some (.int .u64 x) := fun v => by
        rw [World.cell?_of_block (Below.heap_setCell _ _ _ _ (by simp; omega))]; exact hcelb
      have hcelb3 : ∀ (v : Value), (wr.setCell ⟨w.heap.size, skip + k, none⟩ v).drew.cell? ⟨b, ob + k, none⟩ = some (.int .u64 x) := hcelb2
      have hcell2 : wr.cell? ⟨w.heap.size, skip + k + 1, none⟩ = some (.int .u64 0) := by rw [← HZ.out (skip + k + 1) (by omega)]; exact hbl.cell (by omega)
      go_wp2
      go_region
      all_goals
        go_wp2
        go_roundw
        case rel =>
          refine ⟨k + 1, _, by omega, by go_num, ?_, ((hbl.set (skip + k) Z).set (skip + k + 1) H), ?_, ?_, ?_, ?_⟩
          · exact below_only hbel ((((Only.refl _ _).setCell _ _ _).setCell _ _ _).drew) (Nat.le_refl _) hbel.size
          · exact (HL.out.upd ⟨Z0, Z1⟩).upd ⟨H0, H1⟩
          · intro j hj
            rw [upd_other _ _ _ _ (by omega), upd_other _ _ _ _ (by omega)]
            exact HZ.out j (by omega)
          · show _ < _
            rw [← Nat.add_assoc, upd_same]; exact HH.out
          · have := shl_step (Q := 2 ^ (64 - s).toNat) HV.out HX.out HY.out (by rw [← Int.pow_add, show s.toNat + (64 - s).toNat = 64 by omega]; rfl)
            rw [← HZ2.out, eH] at this
            exact this
        case measure => simp [intOf]; omega
    · have hkn2 : k = n := by omega
      subst hkn2
      go_wp2_with fail
      refine (trim_res w.heap.size (skip + k + 1) (skip + k + 1) F w wr hbel (Nat.le_refl _) hbl (Nat.le_refl _) (by omega) HL.out).mono ?_
      rintro e w3 ⟨rfl, ao2, m, cap2, rfl, hres, hmn, hv⟩
      have HV3 := hid hv
      clear hv
      go_wp2
      go_ret
      refine ⟨ao2, m, cap2, F, rfl, hres, ?_⟩
      rw [HV3.out, Nat.add_assoc, vf_ahead (fun j hj => HZ.out j (.inl hj)), HV.out]
end Go.Proofs.YtedpomledbgpoaaGreat
namespace Go.Proofs.YtedpomledbgpoaaGreat
open Go.RowKit

end Go.Proofs.YtedpomledbgpoaaGreat
namespace Go.Proofs.YtedpomledbgpoaaGreat
open Go.RowKit

end Go.Proofs.YtedpomledbgpoaaGreat
namespace Go.Proofs.YtedpomledbgpoaaGreat
open Go.RowKit

end Go.Proofs.YtedpomledbgpoaaGreat
namespace Go.Proofs.YtedpomledbgpoaaGreat
open Go.RowKit

end Go.Proofs.YtedpomledbgpoaaGreat
namespace Go.Proofs.YtedpomledbgpoaaGreat
open Go.RowKit

theorem lm_const {x : Int} (h0 : 0 ≤ x) (h1 : x < 18446744073709551616) (n : Nat) : Lm (fun _ => x) n := fun _ _ => ⟨h0, h1⟩

/-- The two lists lie in two blocks. -/
def Apart (a b : Option Addr) : Prop := ∀ x y, a = some x → b = some y → x.block ≠ y.block
theorem apart_none (b : Option Addr) : Apart none b := fun _ _ h => by cases h
theorem Apart.symm {a b : Option Addr} (h : Apart a b) : Apart b a := fun x y h1 h2 e => h y x h2 h1 e.symm
theorem Res.apart {C w w' a b n cap f} {B : Nat} (h : Res C w w' b n cap f) (ha : Und a B) (hB : B ≤ w.heap.size) : Apart a b := by
  rcases h.own with ⟨rfl, _, _⟩ | ⟨g, rfl, h1, _, _, _, _⟩
  · exact fun _ _ _ h => by cases h
  · intro x y hx hy
    cases hy
    have := ha x hx
    simp; omega

set_option maxHeartbeats 1000000 in
/-- divMod where the divisor has one limb, or is the greater. -/
theorem divMod_smallA (ao bo : Option Addr) (n m ca cb : Nat) (f h : Nat → Int) (w : World) (hn : n ≤ 8796093022208) (hm : m ≤ 8796093022208) (hr : Rd .u64 w ao n f) (hs : Rd .u64 w bo m h) (hf : Lm f n) (hh : Lm h m) (ff : Fm f n) (fh : Fm h m) (hsm : m = 1 ∨ vf f n < vf h m) :
    Calls Tryz.prog 131 #[.slice ao n ca, .slice bo m cb] w fun e w' => ∃ a1 k1 c1 q a2 k2 c2 r, e = .returned (.tuple #[.slice a1 k1 c1, .slice a2 k2 c2]) ∧ Res n w w' a1 k1 c1 q ∧ Res (n + 1) w w' a2 k2 c2 r ∧ vf f n = vf q k1 * vf h m + vf r k2 ∧ 0 ≤ vf r k2 ∧ vf r k2 < vf h m ∧ Apart a1 a2 := by
  have HF := hid hf; have HH := hid hh; have FF := hid ff; have FH := hid fh
  clear hf hh ff fh
  have cc := cmp_c ao bo n m ca cb f h w (by omega) (by omega) hr hs HF.out HH.out FF.out FH.out
  have CC := hid cc
  clear cc
  by_cases hlt : vf f n < vf h m
  · have HLt := hid hlt
    clear hlt hsm
    go_enter Tryz.func131, Tryz.ntmps131
    go_wp2_with fail
    refine CC.out.mono ?_
    rintro e w1 ⟨⟨q, rfl⟩, c, rfl, ho⟩
    have hc : c = -1 := by have := HLt.out; unfold Ord at ho; omega
    subst hc
    clear ho
    go_wp2_with fail
    refine (clone_c ao n ca f _ (by omega) (show Rd .u64 (w.drewN q) ao n f from hr) HF.out).mono ?_
    rintro e w2 ⟨a2, k2, c2, rfl, hres, hk, hv⟩
    have HV := hid hv
    clear hv
    go_wp2
    go_ret2
    have hb := below_drewN (Below.refl w.heap.size w) q
    refine ⟨none, 0, 0, f, a2, k2, c2, f, rfl, Res.nil f (hb.trans hres.bel), (hres.ahead hb).mono (by omega), ?_, ?_, ?_, apart_none _⟩
    · rw [HV.out]; simp [vf]
    · rw [HV.out]; exact vf_nonneg HF.out
    · rw [HV.out]; exact HLt.out
  · obtain rfl : m = 1 := by omega
    have hle : vf h 1 ≤ vf f n := by omega
    have HLe := hid hle
    clear hsm hlt hle
    obtain ⟨b, o, rfl⟩ := hs.at (by omega)
    obtain ⟨x, hx⟩ : ∃ x, h 0 = x := ⟨_, rfl⟩
    have hcell : w.cell? ⟨b, o, none⟩ = some (.int .u64 x) := by rw [← hx]; exact hs.cell (j := 0) (by omega)
    have hx01 := HH.out 0 (by omega)
    have hx2 : x ≠ 0 := by rw [← hx]; rcases FH.out with h | h; omega; exact h
    rw [hx] at hx01
    obtain ⟨x0, x1⟩ := hx01
    have hv1 : vf h 1 = x := by simp [vf, pw, hx]
    have HV1 := hid hv1
    clear hv1 hx
    go_enter Tryz.func131, Tryz.ntmps131
    go_wp2_with fail
    refine CC.out.mono ?_
    rintro e w1 ⟨⟨q, rfl⟩, c, rfl, ho⟩
    have hc : 0 ≤ c := by have := HLe.out; unfold Ord at ho; omega
    clear ho
    go_wp2_with fail
    refine (divWord_c ao n ca f x _ (by omega) (show Rd .u64 (w.drewN q) ao n f from hr) HF.out (by omega) x1).mono ?_
    rintro e w2 ⟨a1, k1, c1, q1, r, rfl, hres, r0, r1, hv⟩
    have HV := hid hv
    clear hv
    go_wp2_with fail
    refine (fromWord_c r w2 r0 (by omega)).mono ?_
    rintro e w3 ⟨a2, k2, c2, q2, rfl, hres2, hv2⟩
    have HV2 := hid hv2
    clear hv2
    go_wp2
    go_ret2
    have hb := below_drewN (Below.refl w.heap.size w) q
    refine ⟨a1, k1, c1, q1, a2, k2, c2, q2, rfl, (hres.later hres2.bel).ahead hb, ((hres2.ahead hres.bel).ahead hb).mono (by omega), ?_, ?_, ?_, hres2.apart hres.und (Nat.le_refl _)⟩
    · rw [HV2.out, HV1.out]; exact HV.out
    · rw [HV2.out]; exact r0
    · rw [HV2.out, HV1.out]; exact r1
end Go.Proofs.YtedpomledbgpoaaGreat
namespace Go.Proofs.YtedpomledbgpoaaGreat
open Go.RowKit

theorem mul64_c (x y : Int) (w : World) (x0 : 0 ≤ x) (x1 : x < 18446744073709551616) (y0 : 0 ≤ y) (y1 : y < 18446744073709551616) :
    Calls Tryz.prog 174 #[.int .u64 x, .int .u64 y] w fun e w' => e = .returned (.tuple #[.int .u64 (x * y / 18446744073709551616), .int .u64 (x * y % 18446744073709551616)]) ∧ w' = w := by
  obtain ⟨x, rfl⟩ := Int.eq_ofNat_of_zero_le x0
  obtain ⟨y, rfl⟩ := Int.eq_ofNat_of_zero_le y0
  refine (Tryz.bits_Mul64 x y (by omega) (by omega) w).mono ?_
  rintro e w' ⟨rfl, rfl⟩
  exact ⟨by simp, rfl⟩
theorem prod_bounds {x y : Int} (x0 : 0 ≤ x) (x1 : x < 18446744073709551616) (y0 : 0 ≤ y) (y1 : y < 18446744073709551616) : 0 ≤ x * y ∧ x * y ≤ 340282366920938463426481119284349108225 := by
  refine ⟨Int.mul_nonneg x0 y0, ?_⟩
  have := Int.mul_le_mul (show x ≤ 18446744073709551615 by omega) (show y ≤ 18446744073709551615 by omega) y0 (by omega)
  omega

set_option maxHeartbeats 1000000 in
theorem mulAdd_c (x y z : Int) (w : World) (x0 : 0 ≤ x) (x1 : x < 18446744073709551616) (y0 : 0 ≤ y) (y1 : y < 18446744073709551616) (z0 : 0 ≤ z) (z1 : z < 18446744073709551616) :
    Calls Tryz.prog 173 #[.int .u64 x, .int .u64 y, .int .u64 z] w fun e w' => e = .returned (.tuple #[.int .u64 ((x * y + z) / 18446744073709551616), .int .u64 ((x * y + z) % 18446744073709551616)]) ∧ w' = w := by
  have c1 := mul64_c x y w x0 x1 y0 y1
  have hb := prod_bounds x0 x1 y0 y1
  generalize x * y = P at *
  obtain ⟨p0, p1⟩ := hb
  obtain ⟨h, hh⟩ : ∃ h, P / 18446744073709551616 = h := ⟨_, rfl⟩
  obtain ⟨l, hl⟩ : ∃ l, P % 18446744073709551616 = l := ⟨_, rfl⟩
  rw [hh, hl] at c1
  have h0 : 0 ≤ h := by omega
  have h1 : h ≤ 18446744073709551614 := by omega
  have l0 : 0 ≤ l := by omega
  have l1 : l < 18446744073709551616 := by omega
  have e1 : (P + z) / 18446744073709551616 = h + (l + z) / 18446744073709551616 := by omega
  have e2 : (P + z) % 18446744073709551616 = (l + z) % 18446744073709551616 := by omega
  have C1 := hid c1; have E1 := hid e1; have E2 := hid e2
  clear c1 e1 e2 hh hl p0 p1
  go_enter Tryz.func173, Tryz.ntmps173
  go_wp2_with fail
  refine C1.out.mono ?_
  rintro e w1 ⟨rfl, rfl⟩
  go_wp2_with (simp only [add64_0 l z l0 z0])
  go_ret2
  exact ⟨by rw [E1.out, E2.out]; rfl, rfl⟩

/-- One limb of a product added. -/
theorem muladd_step {f f' G : Nat → Int} {o k : Nat} {ov wd x h l dd c : Int} (HV : vf (sh f' o) k + ov * pw k = vf (sh f o) k + vf G k * wd) (hE : f' (o + k) = f (o + k)) (hx : G k = x) (h1 : x * wd + ov = h * 18446744073709551616 + l) (h2 : f' (o + k) + l = c * 18446744073709551616 + dd) :
    vf (sh (upd f' (o + k) dd) o) (k + 1) + (h + c) * pw (k + 1) = vf (sh f o) (k + 1) + vf G (k + 1) * wd := by
  have e1 : vf (sh (upd f' (o + k) dd) o) k = vf (sh f' o) k := vf_congr (fun j hj => upd_other _ _ _ _ (by omega))
  rw [vf_succ, vf_succ, vf_succ, e1, pw_succ, sh_at, sh_at, upd_same, hx]
  rw [hE] at h2
  grind

set_option maxHeartbeats 1000000 in
/-- mulAddTo: a * wd is added to the first limbs of d; what goes over is answered. -/
theorem mulAddTo_c (g o n cap N : Nat) (f : Nat → Int) (bo : Option Addr) (m cb : Nat) (h : Nat → Int) (wd : Int) (w : World) (hb : Blk .u64 83 w g N f) (hf : Lm f N) (ho : o + n ≤ N)
    (hr : Rd .u64 w bo m h) (hh : Lm h m) (hoff : 0 < m → Off bo g) (hmn : m ≤ n) (hcap : n ≤ cap) (hcm : cap ≤ 140737488355328) (d0 : 0 ≤ wd) (d1 : wd < 18446744073709551616) :
    Calls Tryz.prog 171 #[.slice (some ⟨g, o, none⟩) n cap, .slice bo m cb, .int .u64 wd] w fun e w' => ∃ ov, e = .returned (.int .u64 ov) ∧ 0 ≤ ov ∧ ov < 18446744073709551616 ∧ Only g w w' ∧
      ∃ f', Blk .u64 83 w' g N f' ∧ Lm f' N ∧ (∀ j, j < o ∨ o + m ≤ j → f' j = f j) ∧ vf (sh f' o) m + ov * pw m = vf (sh f o) m + vf h m * wd := by
  have HH := hid hh
  have HRd := hid hr
  clear hh hr
  go_enter Tryz.func171, Tryz.ntmps171
  go_wp2
  go_loopw [7, 18] (fun c t wr => ∃ (k : Nat) (ov : Int) (f' : Nat → Int), k ≤ m ∧ t = .int .i64 k ∧ c = .int .u64 ov ∧ 0 ≤ ov ∧ ov < 18446744073709551616 ∧ Only g w wr ∧ Blk .u64 83 wr g N f' ∧ Hid (Lm f' N) ∧ Hid (∀ j, j < o ∨ o + k ≤ j → f' j = f j) ∧
      Hid (vf (sh f' o) k + ov * pw k = vf (sh f o) k + vf h k * wd)) (fun _ t _ => m - (intOf t).toNat)
  case atStart => exact ⟨0, 0, f, by omega, rfl, rfl, by omega, by omega, Only.refl _ _, hb, hf, fun _ _ => rfl, by simp [Hid, vf, pw]⟩
  case round =>
    obtain ⟨k, ov, f', hk, rfl, rfl, v0, v1, hon, hbl, HL, HE, HV⟩ := hrel
    by_cases hlt : k < m
    · have hr := HRd.out
      obtain ⟨b, ob, rfl⟩ := hr.at (by omega)
      obtain ⟨x, hx⟩ : ∃ x, f' (o + k) = x := ⟨_, rfl⟩
      obtain ⟨y, hy⟩ : ∃ y, h k = y := ⟨_, rfl⟩
      have hcell : wr.cell? ⟨g, o + k, none⟩ = some (.int .u64 x) := by rw [← hx]; exact hbl.cell (by omega)
      have hcelb : wr.cell? ⟨b, ob + k, none⟩ = some (.int .u64 y) := by rw [← hy]; exact (hr.only hon (hoff (by omega))).cell hlt
      have hfz := hbl.frozen (o + k)
      have hx01 := HL.out (o + k) (by omega)
      have hy01 := HH.out k hlt
      rw [hx] at hx01
      rw [hy] at hy01
      obtain ⟨x0, x1⟩ := hx01
      obtain ⟨y0, y1⟩ := hy01
      have HX := hid hx
      have HY := hid hy
      clear hx hy hr
      have c1 := fun w => mulAdd_c y wd ov w y0 y1 d0 d1 v0 v1
      have hbd := prod_bounds y0 y1 d0 d1
      obtain ⟨hi, hhi⟩ : ∃ hi, (y * wd + ov) / 18446744073709551616 = hi := ⟨_, rfl⟩
      obtain ⟨l, hl⟩ : ∃ l, (y * wd + ov) % 18446744073709551616 = l := ⟨_, rfl⟩
      rw [hhi, hl] at c1
      have hP : y * wd + ov = hi * 18446744073709551616 + l := by omega
      have i0 : 0 ≤ hi := by omega
      have l0 : 0 ≤ l := by omega
      have l1 : l < 18446744073709551616 := by omega
      have i1 : hi + (x + l) / 18446744073709551616 < 18446744073709551616 := by omega
      have C1 := hid c1; have HP := hid hP
      clear c1 hP hbd hhi hl
      go_wp2_with fail
      refine (C1.out _).mono ?_
      rintro e wx ⟨rfl, rfl⟩
      go_wp2_with (simp only [add64_0 x l x0 l0])
      go_roundw
      case rel =>
        refine ⟨k + 1, hi + (x + l) / 18446744073709551616, upd f' (o + k) ((x + l) % 18446744073709551616), by omega, by go_num, rfl, by omega, by omega, hon.setCell _ _ _, hbl.set _ _, HL.out.upd (by omega), ?_, ?_⟩
        · intro j hj
          rw [upd_other _ _ _ _ (by omega)]
          exact HE.out j (by omega)
        · exact muladd_step HV.out (HE.out _ (by omega)) HY.out HP.out (by rw [HX.out]; omega)
      case measure => simp [intOf]; omega
    · have hkm : k = m := by omega
      subst hkm
      go_wp2
      go_ret
      exact ⟨ov, rfl, v0, v1, hon, f', hbl, HL.out, HE.out, HV.out⟩

/-- A product's row: what is added, put together. -/
theorem row_val {f f1 f2 : Nat → Int} {i n m : Nat} {ov V y : Int} (h1 : vf (sh f1 i) n + ov * pw n = vf (sh f i) n + V * y) (h2 : vf (sh f2 (i + n)) m = vf (sh f1 (i + n)) m + ov) (e1 : ∀ j, j < i + n → f2 j = f1 j) (e2 : ∀ j, j < i ∨ i + n ≤ j → f1 j = f j) :
    vf f2 (i + (n + m)) = vf f (i + (n + m)) + V * y * pw i := by
  rw [vf_split f2 i, vf_split f i, vf_split (sh f2 i) n, vf_split (sh f i) n, sh_sh, sh_sh]
  rw [vf_congr (f := f2) (g := f) (n := i) (fun j hj => (e1 j (by omega)).trans (e2 j (by omega)))]
  rw [vf_congr (f := sh f2 i) (g := sh f1 i) (n := n) (fun j hj => e1 _ (by omega)), h2]
  rw [vf_congr (f := sh f1 (i + n)) (g := sh f (i + n)) (n := m) (fun j hj => e2 _ (by omega))]
  have : vf (sh f1 i) n = vf (sh f i) n + V * y - ov * pw n := by omega
  rw [this]
  grind

theorem row_room {f f1 : Nat → Int} {i n r : Nat} {ov V y : Int} (h1 : vf (sh f1 i) n + ov * pw n = vf (sh f i) n + V * y) (e2 : ∀ j, j < i ∨ i + n ≤ j → f1 j = f j) (hlt : vf f (i + (n + r)) + V * y * pw i < pw (i + (n + r))) (hL : Lm f1 (i + n)) :
    vf (sh f1 (i + n)) r + ov < pw r := by
  have a1 := vf_nonneg (hL.mono (m := i) (by omega))
  have a2 := vf_nonneg (hL.sh (o := i) (m := n) (by omega))
  rw [vf_split f i, vf_split (sh f i) n, sh_sh, pw_add, pw_add] at hlt
  rw [vf_congr (f := sh f1 (i + n)) (g := sh f (i + n)) (n := r) (fun j hj => e2 _ (by omega))]
  rw [vf_congr (f := f) (g := f1) (n := i) (fun j hj => (e2 j (by omega)).symm)] at hlt
  have e : vf (sh f i) n + V * y = vf (sh f1 i) n + ov * pw n := h1.symm
  have hp := pw_pos i
  have hq := pw_pos n
  have k1 : (vf (sh f (i + n)) r + ov) * (pw n * pw i) < pw r * (pw n * pw i) := by
    have k2 : 0 ≤ vf (sh f1 i) n * pw i := Int.mul_nonneg a2 (Int.le_of_lt hp)
    have k3 : (vf (sh f i) n + vf (sh f (i + n)) r * pw n) * pw i + V * y * pw i = vf (sh f1 i) n * pw i + (vf (sh f (i + n)) r + ov) * (pw n * pw i) := by
      have : vf (sh f i) n = vf (sh f1 i) n + ov * pw n - V * y := by omega
      rw [this]; grind
    have k4 : pw i * (pw n * pw r) = pw r * (pw n * pw i) := by grind
    omega
  exact Int.lt_of_mul_lt_mul_right k1 (Int.le_of_lt (Int.mul_pos hq hp))

theorem addl_fin {A B C V y p s t : Int} (h1 : A = B + V * y * p) (h2 : B = C + V * s) (h3 : t = s + y * p) : A = C + V * t := by
  rw [h1, h2, h3]; grind
theorem addl_room {f' f1 : Nat → Int} {o i n r D N : Nat} {ov V y : Int} (HV1 : vf (sh f1 (o + i)) n + ov * pw n = vf (sh f' (o + i)) n + V * y) (HE1 : ∀ j, j < o + i ∨ o + i + n ≤ j → f1 j = f' j) (HRoom : vf (sh f' o) (i + (n + r)) + V * y * pw i < pw (i + (n + r))) (HL1 : Lm f1 N) (hN : o + D ≤ N) (hD : D = i + (n + r)) :
    vf (sh f1 (o + (i + n))) (D - (i + n)) + ov < pw (D - (i + n)) := by
  have e : D - (i + n) = r := by omega
  rw [e, ← sh_sh]
  exact row_room (f := sh f' o) (f1 := sh f1 o) (by rw [sh_sh, sh_sh]; exact HV1) (fun j hj => HE1 _ (by omega)) HRoom (HL1.sh (by omega))
theorem addl_val {f' f1 f2 : Nat → Int} {o i n r D : Nat} {ov V y : Int} (HV1 : vf (sh f1 (o + i)) n + ov * pw n = vf (sh f' (o + i)) n + V * y) (HE1 : ∀ j, j < o + i ∨ o + i + n ≤ j → f1 j = f' j) (hv2 : vf (sh f2 (o + (i + n))) (D - (i + n)) = vf (sh f1 (o + (i + n))) (D - (i + n)) + ov) (he2 : ∀ j, j < o + (i + n) → f2 j = f1 j) (hD : D = i + (n + r)) :
    vf (sh f2 o) D = vf (sh f' o) D + V * y * pw i := by
  have e : D - (i + n) = r := by omega
  rw [e] at hv2
  rw [hD]
  exact row_val (f := sh f' o) (f1 := sh f1 o) (by rw [sh_sh, sh_sh]; exact HV1) (by rw [sh_sh, sh_sh]; exact hv2) (fun j hj => he2 _ (by omega)) (fun j hj => HE1 _ (by omega))

set_option maxHeartbeats 2000000 in
/-- addLimbProducts: a * b is added to d, which has just n + m limbs. -/
theorem addLimb_c (g o cap N : Nat) (f : Nat → Int) (ao bo : Option Addr) (n m ca cb D : Nat) (fa fb : Nat → Int) (w : World) (hb : Blk .u64 83 w g N f) (hf : Lm f N) (ho : o + D ≤ N) (hD : n + m ≤ D) (hm : N ≤ 140737488355328)
    (hra : Rd .u64 w ao n fa) (hrb : Rd .u64 w bo m fb) (ha : Lm fa n) (hbb : Lm fb m) (hoa : 0 < n → Off ao g) (hob : 0 < m → Off bo g) (hcap : D ≤ cap) (hcm : cap ≤ 140737488355328) (hmn : m ≤ n)
    (hroom : vf (sh f o) D + vf fa n * vf fb m < pw D) :
    Calls Tryz.prog 157 #[.slice (some ⟨g, o, none⟩) D cap, .slice ao n ca, .slice bo m cb] w fun e w' => e = .returned (.tuple #[]) ∧ Only g w w' ∧
      ∃ f', Blk .u64 83 w' g N f' ∧ Lm f' N ∧ (∀ j, j < o ∨ o + D ≤ j → f' j = f j) ∧ vf (sh f' o) D = vf (sh f o) D + vf fa n * vf fb m := by
  have HA := hid ha; have HB := hid hbb; have RA := hid hra; have RB := hid hrb; have HR := hid hroom
  clear ha hbb hra hrb hroom
  go_enter Tryz.func157, Tryz.ntmps157
  go_wp2
  go_loopw [9] (fun t wr => ∃ (i : Nat) (f' : Nat → Int), i ≤ m ∧ t = .int .i64 i ∧ Only g w wr ∧ Blk .u64 83 wr g N f' ∧ Hid (Lm f' N) ∧ Hid (∀ j, j < o ∨ o + D ≤ j → f' j = f j) ∧
      Hid (vf (sh f' o) D = vf (sh f o) D + vf fa n * vf fb i)) (fun t _ => m - (intOf t).toNat)
  case atStart => exact ⟨0, f, by omega, rfl, Only.refl _ _, hb, hf, fun _ _ => rfl, by simp [Hid, vf]⟩
  case round =>
    obtain ⟨i, f', hi, rfl, hon, hbl, HL, HE, HV⟩ := hrel
    by_cases hlt : i < m
    · have hn0 : 0 < n := by omega
      have hrb := RB.out
      obtain ⟨b, ob, rfl⟩ := hrb.at (by omega)
      obtain ⟨y, hy⟩ : ∃ y, fb i = y := ⟨_, rfl⟩
      have hcelb : wr.cell? ⟨b, ob + i, none⟩ = some (.int .u64 y) := by rw [← hy]; exact (hrb.only hon (hob (by omega))).cell hlt
      have hy01 := HB.out i hlt
      rw [hy] at hy01
      obtain ⟨y0, y1⟩ := hy01
      have HY := hid hy
      clear hy hrb
      obtain ⟨r, hr⟩ : ∃ r, D = i + (n + r) := ⟨D - (i + n), by omega⟩
      have hle : vf fb (i + 1) ≤ vf fb m := vf_le HB.out (by omega)
      have hroom : vf (sh f' o) (i + (n + r)) + vf fa n * y * pw i < pw (i + (n + r)) := by
        have h1 := HV.out
        have h2 := HR.out
        rw [hr] at h1 h2
        rw [h1]
        have h3 : vf fa n * vf fb (i + 1) ≤ vf fa n * vf fb m := Int.mul_le_mul_of_nonneg_left hle (vf_nonneg HA.out)
        rw [vf_succ, HY.out, Int.mul_add, ← Int.mul_assoc] at h3
        omega
      have HRoom := hid hroom
      have HD := hid hr
      have hrn : D - (i + n) = r := by omega
      have HDr := hid hrn
      clear hr hle hroom hrn
      have HRA := hid (RA.out.only hon (hoa hn0))
      have hne1 : ¬ (i + n = cap) := by omega
      have hne3 : ¬ (cap = i + n) := by omega
      have hne4 : ¬ (cap = i) := by omega
      have hne5 : ¬ (cap - (i + n) = 0) := by omega
      have hne6 : ¬ (cap - i = 0) := by omega
      have hw1 : IntKind.i64.wrap ((i : Int) + n) = (i : Int) + n := by rw [IntKind.wrap_i64]; omega
      have ht1 : ((i : Int) + n).toNat = i + n := by omega
      have hne2 : ¬ (i = cap) := by omega
      have hlt1 : i + n < D := by omega
      go_wp2_with fail
      go_region_with (first | (go_at_call 171; refine (mulAddTo_c g (o + i) (D - i) (cap - i) N f' ao n ca fa y _ (by exact hbl) HL.out (by omega) (by exact HRA.out) HA.out hoa (by omega) (by omega) (by omega) y0 y1).mono ?_; rintro e w1 ⟨ov, rfl, v0, v1, hon1, f1, hb1, hl1, he1, hv1⟩; have HL1 := hid hl1; have HE1 := hid he1; have HV1 := hid hv1; clear hl1 he1 hv1) | (go_at_call 169; refine (addWord_c g (o + (i + n)) (D - (i + n)) (cap - (i + n)) N f1 ov _ (by exact hb1) HL1.out (by omega) hm v0 v1 (addl_room HV1.out HE1.out HRoom.out HL1.out ho HD.out)).mono ?_; rintro e w2 ⟨rfl, hon2, f2, hb2, hl2, he2, hv2⟩; have HL2 := hid hl2; have HE2 := hid he2; have HV2 := hid hv2; clear hl2 he2 hv2))
      all_goals
        go_wp2
        go_roundw
        case rel =>
          refine ⟨i + 1, f2, by omega, by go_num, (hon.drew.trans hon1).trans hon2, hb2, HL2.out, fun j hj => ?_, ?_⟩
          · exact (HE2.out j (by have := HDr.out; have := HD.out; omega)).trans ((HE1.out j (by omega)).trans (HE.out j hj))
          · exact addl_fin (addl_val HV1.out HE1.out HV2.out (fun j hj => HE2.out j (.inl hj)) HD.out) HV.out (by rw [vf_succ, HY.out])
        case measure => simp [intOf]; omega
    · have him : i = m := by omega
      subst him
      go_wp2
      exact bodyPost_end (v := .tuple #[]) (results_none rfl _ _ _) rfl ⟨rfl, hon, f', hbl, HL.out, HE.out, HV.out⟩
end Go.Proofs.YtedpomledbgpoaaGreat
namespace Go.Proofs.YtedpomledbgpoaaGreat
open Go.RowKit

/-- What addProduct does, at these numbers. -/
def AddProd (n m : Nat) : Prop := ∀ (g o cap N : Nat) (f : Nat → Int) (ao bo : Option Addr) (ca cb D : Nat) (fa fb : Nat → Int) (w : World), Blk .u64 83 w g N f → Lm f N → o + D ≤ N → n + m ≤ D → N ≤ 140737488355328 →
    Rd .u64 w ao n fa → Rd .u64 w bo m fb → Lm fa n → Lm fb m → (0 < n → Off ao g) → (0 < m → Off bo g) → D ≤ cap → cap ≤ 140737488355328 → vf (sh f o) D + vf fa n * vf fb m < pw D →
    Calls Tryz.prog 146 #[.slice (some ⟨g, o, none⟩) D cap, .slice ao n ca, .slice bo m cb] w fun e w' => e = .returned (.tuple #[]) ∧ Only g w w' ∧
      ∃ f', Blk .u64 83 w' g N f' ∧ Lm f' N ∧ (∀ j, j < o ∨ o + D ≤ j → f' j = f j) ∧ vf (sh f' o) D = vf (sh f o) D + vf fa n * vf fb m

set_option maxHeartbeats 1000000 in
theorem addProd_small (n m : Nat) (h : n < 40 ∨ m < 40) : AddProd n m := by
  intro g o cap N f ao bo ca cb D fa fb w hb hf ho hD hN hra hrb ha hbb hoa hob hcap hcm hroom
  by_cases hsw : n < m
  · have hmul : vf fa n * vf fb m = vf fb m * vf fa n := Int.mul_comm _ _
    rw [hmul] at hroom ⊢
    have c := addLimb_c g o cap N f bo ao m n cb ca D fb fa w hb hf ho (by omega) hN hrb hra hbb ha hob hoa hcap hcm (by omega) hroom
    have C := hid c
    clear c hroom hra hrb ha hbb hoa hob hmul hb hf
    go_enter Tryz.func146, Tryz.ntmps146
    go_wp2_with fail
    refine C.out.mono ?_
    rintro e w' ⟨rfl, hrest⟩
    have HRest := hid hrest
    clear hrest
    go_wp2
    exact bodyPost_end (v := .tuple #[]) (results_none rfl _ _ _) rfl ⟨rfl, HRest.out⟩
  · have c := addLimb_c g o cap N f ao bo n m ca cb D fa fb w hb hf ho (by omega) hN hra hrb ha hbb hoa hob hcap hcm (by omega) hroom
    have C := hid c
    clear c hroom hra hrb ha hbb hoa hob hb hf
    go_enter Tryz.func146, Tryz.ntmps146
    go_wp2_with fail
    refine C.out.mono ?_
    rintro e w' ⟨rfl, hrest⟩
    have HRest := hid hrest
    clear hrest
    go_wp2
    exact bodyPost_end (v := .tuple #[]) (results_none rfl _ _ _) rfl ⟨rfl, HRest.out⟩

theorem prod_lt {fa fb : Nat → Int} {n m : Nat} (ha : Lm fa n) (hb : Lm fb m) : vf fa n * vf fb m < pw (n + m) := by
  have a1 := vf_nonneg ha; have a2 := vf_lt ha; have b1 := vf_nonneg hb; have b2 := vf_lt hb
  rw [pw_add]
  have h1 : vf fa n * vf fb m ≤ vf fa n * pw m := Int.mul_le_mul_of_nonneg_left (Int.le_of_lt b2) a1
  have h2 : vf fa n * pw m < pw n * pw m := (Int.mul_lt_mul_right (pw_pos m)).2 a2
  omega

end Go.Proofs.YtedpomledbgpoaaGreat
namespace Go.Proofs.YtedpomledbgpoaaGreat
open Go.RowKit

/-- addProduct at lists of n and m limbs, of these capacities. -/
def AddProdC (n m ca cb : Nat) : Prop := ∀ (g o cap N : Nat) (f : Nat → Int) (ao bo : Option Addr) (D : Nat) (fa fb : Nat → Int) (w : World), Blk .u64 83 w g N f → Lm f N → o + D ≤ N → n + m ≤ D → N ≤ 140737488355328 →
    Rd .u64 w ao n fa → Rd .u64 w bo m fb → Lm fa n → Lm fb m → (0 < n → Off ao g) → (0 < m → Off bo g) → D ≤ cap → cap ≤ 140737488355328 → vf (sh f o) D + vf fa n * vf fb m < pw D →
    Calls Tryz.prog 146 #[.slice (some ⟨g, o, none⟩) D cap, .slice ao n ca, .slice bo m cb] w fun e w' => e = .returned (.tuple #[]) ∧ Only g w w' ∧
      ∃ f', Blk .u64 83 w' g N f' ∧ Lm f' N ∧ (∀ j, j < o ∨ o + D ≤ j → f' j = f j) ∧ vf (sh f' o) D = vf (sh f o) D + vf fa n * vf fb m
theorem AddProd.at {n m : Nat} (h : AddProd n m) (ca cb : Nat) : AddProdC n m ca cb := fun g o cap N f ao bo D fa fb w => h g o cap N f ao bo ca cb D fa fb w

theorem half_c (n c : Nat) (z : Int) (w : World) (hn : n ≤ 140737488355328) (hz : z = n) (hc : c = (n + 1) / 2) : Calls Tryz.prog 158 #[.int .i64 z] w fun e w' => e = .returned (.int .i64 c) ∧ w' = w := by
  subst hz
  have h1 : Int.tdiv ((n : Int) + 1) 2 = (c : Int) := by rw [Int.tdiv_eq_ediv_of_nonneg (by omega)]; omega
  have h2 : ((n : Int) + 1) / 2 = (c : Int) := by omega
  clear hc
  go_enter Tryz.func158, Tryz.ntmps158
  go_wp2
  go_ret
  exact ⟨rfl, rfl⟩

theorem only_drewN' {g : Nat} {a w : World} (h : Only g a w) (q : Nat) : Only g a (w.drewN q) := ⟨h.os, h.tape, h.output, h.size, h.block⟩

/-- A piece's product, added at its place. -/
theorem piece_val {f' F : Nat → Int} {o i D : Nat} {X V0 V : Int} (hi : i ≤ D) (h0 : vf (sh F o) D = V0) (he : ∀ j, j < o + i ∨ o + i + (D - i) ≤ j → f' j = F j) (hv : vf (sh f' (o + i)) (D - i) = vf (sh F (o + i)) (D - i) + X) (hV : V = V0 + X * pw i) : vf (sh f' o) D = V := by
  obtain ⟨d, rfl⟩ := Nat.exists_eq_add_of_le hi
  rw [Nat.add_sub_cancel_left] at hv he
  rw [vf_split, sh_sh] at h0 ⊢
  rw [hv, vf_congr (f := sh f' o) (g := sh F o) (n := i) (fun j hj => he _ (by omega)), hV, ← h0]
  grind
theorem piece_room {F : Nat → Int} {o i D N : Nat} {X V0 : Int} (hi : i ≤ D) (hF : Lm F N) (hN : o + D ≤ N) (h0 : vf (sh F o) D = V0) (hr : V0 + X * pw i < pw D) : vf (sh F (o + i)) (D - i) + X < pw (D - i) := by
  obtain ⟨d, rfl⟩ := Nat.exists_eq_add_of_le hi
  rw [Nat.add_sub_cancel_left]
  have a1 := vf_nonneg (hF.sh (o := o) (m := i) (by omega))
  rw [vf_split, sh_sh] at h0
  rw [pw_add] at hr
  have hp := pw_pos i
  have : (vf (sh F (o + i)) d + X) * pw i < pw d * pw i := by rw [Int.add_mul, Int.mul_comm (pw d)]; omega
  exact Int.lt_of_mul_lt_mul_right this (Int.le_of_lt hp)
theorem vf_two (fa : Nat → Int) (i n V : _) : vf fa (i + n) * V = vf fa i * V + vf (sh fa i) n * V * pw i := by rw [vf_split]; grind

set_option maxRecDepth 100000 in
set_option maxHeartbeats 4000000 in
/-- addPieceProducts: by pieces of b's length. -/
theorem piece_c (g o cap N : Nat) (f : Nat → Int) (b ob : Nat) (bo : Option Addr) (n m ca cb D : Nat) (fa fb : Nat → Int) (w : World) (hb : Blk .u64 83 w g N f) (hf : Lm f N) (ho : o + D ≤ N) (hD : n + m ≤ D) (hN : N ≤ 140737488355328)
    (hra : Rd .u64 w (some ⟨b, ob, none⟩) n fa) (hrb : Rd .u64 w bo m fb) (ha : Lm fa n) (hbb : Lm fb m) (hoa : b ≠ g) (hob : 0 < m → Off bo g) (hcap : D ≤ cap) (hcm : cap ≤ 140737488355328) (hca : n ≤ ca) (hcam : ca ≤ 9223372036854775807) (hm0 : 0 < m)
    (hih : ∀ k c, k ≤ m → k ≤ c → c ≤ ca → AddProdC k m c cb) (hroom : vf (sh f o) D + vf fa n * vf fb m < pw D) :
    Calls Tryz.prog 159 #[.slice (some ⟨g, o, none⟩) D cap, .slice (some ⟨b, ob, none⟩) n ca, .slice bo m cb] w fun e w' => e = .returned (.tuple #[]) ∧ Only g w w' ∧
      ∃ f', Blk .u64 83 w' g N f' ∧ Lm f' N ∧ (∀ j, j < o ∨ o + D ≤ j → f' j = f j) ∧ vf (sh f' o) D = vf (sh f o) D + vf fa n * vf fb m := by
  have HRm := hid hroom; have HB := hid hb; have HF := hid hf; have HRA := hid hra; have HRB := hid hrb; have HA := hid ha; have HBB := hid hbb; have HIH := hid hih; have HOB := hid hob
  clear hroom hb hf hra hrb ha hbb hih hob
  go_enter Tryz.func159, Tryz.ntmps159
  go_wp2
  go_loopw [0, 1] (fun d a wr => ∃ (i : Nat) (f' : Nat → Int) (x : Option Addr) (c : Nat), i ≤ n ∧ d = .slice (some ⟨g, o + i, none⟩) (D - i) (cap - i) ∧ a = .slice x (n - i) c ∧ (i < n → x = some ⟨b, ob + i, none⟩ ∧ c = ca - i) ∧ Only g w wr ∧ Hid (Blk .u64 83 wr g N f') ∧ Hid (Lm f' N) ∧ Hid (∀ j, j < o ∨ o + D ≤ j → f' j = f j) ∧ Hid (vf (sh f' o) D = vf (sh f o) D + vf fa i * vf fb m)) (fun _ a _ => match a with | .slice _ k _ => k | _ => 0)
  case atStart => exact ⟨0, f, some ⟨b, ob, none⟩, ca, by omega, rfl, rfl, fun _ => ⟨rfl, rfl⟩, Only.refl _ _, HB.out, HF.out, fun _ _ => rfl, by simp [Hid, vf]⟩
  case round =>
    obtain ⟨i, f', x, c, hi, rfl, rfl, hx, hon, HBl, HL, HE, HV⟩ := hrel
    by_cases hlt : i < n
    · obtain ⟨rfl, rfl⟩ := hx hlt
      have hbl := HBl.out
      by_cases hsm : m < n - i
      · have hr1 := piece_room (o := o) (i := i) (D := D) (N := N) (X := vf (sh fa i) m * vf fb m) (by omega) HL.out ho HV.out (by
          have e1 := vf_two fa i m (vf fb m)
          have e2 : vf fa (i + m) * vf fb m ≤ vf fa n * vf fb m := Int.mul_le_mul_of_nonneg_right (vf_le HA.out (by omega)) (vf_nonneg HBB.out)
          have := HRm.out; omega)
        have C := hid (HIH.out m (ca - i) (Nat.le_refl _) (by omega) (by omega) g (o + i) (cap - i) N f' (some ⟨b, ob + i, none⟩) bo (D - i) (sh fa i) fb wr hbl HL.out (by omega) (by omega) hN ((HRA.out.only hon (off_some hoa)).drop (by omega)) (HRB.out.only hon (HOB.out hm0)) (HA.out.sh (by omega)) HBB.out (fun _ => off_some hoa) HOB.out (by omega) (by omega) hr1)
        clear hr1 hbl hx
        have m1 : (m : Int) < ((n - i : Nat) : Int) := by omega
        have m2 : ¬ (m = ca - i) := by omega
        have m3 : ¬ (m = cap - i) := by omega
        have hmin : min (m : Int) ((n - i : Nat) : Int) = (m : Int) := by omega
        go_wp2_with fail
        refine C.out.mono ?_
        rintro e w2 ⟨rfl, hon2, f2, hb2, hl2, he2, hv2⟩
        have HB2 := hid hb2; have HL2 := hid hl2; have HE2 := hid he2; have HV2 := hid hv2
        clear hb2 hl2 he2 hv2 C
        have q1 : (m : Int) ≤ ((n - i : Nat) : Int) := by omega
        have q2 : (m : Int) ≤ ((D - i : Nat) : Int) := by omega
        have q3 : m ≤ n - i := by omega
        have q4 : m ≤ D - i := by omega
        have m4 : ¬ (ca - i = m) := by omega
        have m5 : ¬ (cap - i = m) := by omega
        go_wp2
        go_quiet (fail)
        go_wp2
        go_roundw
        case rel =>
          refine ⟨i + m, f2, _, _, by omega, (by rw [← Nat.add_assoc, ← Nat.sub_sub, ← Nat.sub_sub]), (by rw [← Nat.sub_sub]), fun _ => ⟨by rw [← Nat.add_assoc], by rw [Nat.sub_sub]⟩, only_drewN' (hon.trans hon2) _, HB2.out, HL2.out, fun j hj => (HE2.out j (by omega)).trans (HE.out j hj), ?_⟩
          have := piece_val (by omega) HV.out HE2.out HV2.out rfl
          show _ = _
          rw [this, vf_two]; omega
        case measure => show n - i - m < n - i; omega
      · have hr1 := piece_room (o := o) (i := i) (D := D) (N := N) (X := vf (sh fa i) (n - i) * vf fb m) (by omega) HL.out ho HV.out (by
          have e1 := vf_two fa i (n - i) (vf fb m)
          have e2 : vf fa (i + (n - i)) * vf fb m ≤ vf fa n * vf fb m := Int.mul_le_mul_of_nonneg_right (vf_le HA.out (by omega)) (vf_nonneg HBB.out)
          have := HRm.out; omega)
        have C := hid (HIH.out (n - i) (ca - i) (by omega) (by omega) (by omega) g (o + i) (cap - i) N f' (some ⟨b, ob + i, none⟩) bo (D - i) (sh fa i) fb wr hbl HL.out (by omega) (by omega) hN ((HRA.out.only hon (off_some hoa)).drop (by omega)) (HRB.out.only hon (HOB.out hm0)) (HA.out.sh (by omega)) HBB.out (fun _ => off_some hoa) HOB.out (by omega) (by omega) hr1)
        clear hr1 hbl hx
        obtain ⟨r, hr⟩ : ∃ r, n - i = r := ⟨_, rfl⟩
        have HRe := hid hr
        rw [hr] at C ⊢
        have hr0 : 0 < r := by omega
        have hrca : r ≤ ca - i := by omega
        have hrD : r < D - i := by omega
        have hrcap : r < cap - i := by omega
        have hrm : r ≤ m := by omega
        clear hr
        have hmin : min (m : Int) (r : Int) = (r : Int) := by omega
        go_wp2_with fail
        refine C.out.mono ?_
        rintro e w2 ⟨rfl, hon2, f2, hb2, hl2, he2, hv2⟩
        have HB2 := hid hb2; have HL2 := hid hl2; have HE2 := hid he2; have HV2 := hid hv2
        clear hb2 hl2 he2 hv2 C
        have q2 : (r : Int) ≤ ((D - i : Nat) : Int) := by omega
        have q4 : r ≤ D - i := by omega
        have m3 : ¬ (r = cap - i) := by omega
        have m5 : ¬ (cap - i = r) := by omega
        have q5 : (r : Int) ≤ (r : Int) := by omega
        by_cases hc : r = ca - i
        · rw [← hc]
          clear hc hrca
          go_wp2
          go_quiet (fail)
          go_wp2
          go_roundw
          case rel =>
            have hre := HRe.out
            refine ⟨n, f2, _, _, by omega, (by rw [show n = i + r by omega, ← Nat.add_assoc, ← Nat.sub_sub, ← Nat.sub_sub]), (by rw [Nat.sub_self]), fun h => by omega, only_drewN' (hon.trans hon2) _, HB2.out, HL2.out, fun j hj => (HE2.out j (by omega)).trans (HE.out j hj), ?_⟩
            have := piece_val (by omega) HV.out HE2.out HV2.out rfl
            show _ = _
            rw [this, show n = i + r by omega, vf_two]; omega
          case measure => show _ < _; simp; omega
        · have hc2 : ¬ (ca - i = r) := fun h => hc h.symm
          go_wp2
          go_quiet (fail)
          go_wp2
          go_roundw
          case rel =>
            have hre := HRe.out
            refine ⟨n, f2, _, _, by omega, (by rw [show n = i + r by omega, ← Nat.add_assoc, ← Nat.sub_sub, ← Nat.sub_sub]), (by rw [Nat.sub_self]), fun h => by omega, only_drewN' (hon.trans hon2) _, HB2.out, HL2.out, fun j hj => (HE2.out j (by omega)).trans (HE.out j hj), ?_⟩
            have := piece_val (by omega) HV.out HE2.out HV2.out rfl
            show _ = _
            rw [this, show n = i + r by omega, vf_two]; omega
          case measure => show _ < _; simp; omega
    · have hin : i = n := by omega
      subst hin
      go_wp2
      refine bodyPost_end (v := .tuple #[]) (results_none rfl _ _ _) rfl ⟨rfl, hon, f', HBl.out, HL.out, HE.out, HV.out⟩
end Go.Proofs.YtedpomledbgpoaaGreat

/-
  The walk of the reference's Light of a model, whatever it is and however long (written by makers/f17.py). The walk of the reference's Twin of a list of terms. append of one struct to a row that may be as long as memory bears, and where the answer lies (written by makers/f18.py out of Ag and C3). No Go text is named here. The walk of the reference's Twin of a list of terms, however long (written by makers/f20.py out of C22). The walks of rat.Copy of any number, and of package model's copyTerms (written by makers/f15.py out of Q16 and C22). Lists of lists of terms; the walk of package model's Columns (written by makers/f19.py).
-/
import Derived.Test.YtbmfcogfgdggkaaGreatZ7
import Derived.Test.YtbmfcogfgdggkaaGreatZ6
import Derived.Test.YtbmfcogfgdggkaaGreatZ4
import Derived.BigQuiet
import Derived.Deep.RegionHeld3
namespace Go.Proofs.YtbmfcogfgdggkaaGreat
open Go.RowKit

/-- Lists of columns and of rows whose cells can be read. -/
def Cl0 (w : World) (ao : Option Addr) (k : Nat) (C : Nat → Lc) : Prop := ∀ j, j < k → ∃ b o, ao = some ⟨b, o, none⟩ ∧ Cs w b (o + j * 12) (C j).vs
def Rl0 (w : World) (ao : Option Addr) (k : Nat) (R : Nat → Lr) : Prop := ∀ j, j < k → ∃ b o, ao = some ⟨b, o, none⟩ ∧ Cs w b (o + j * 10) (R j).vs ∧ Tr w (R j).ta (R j).tk (R j).col (R j).T ∧ (R j).tk ≤ 9223372036854775807
theorem Cl0.below {w w' ao k C} (h : Cl0 w ao k C) (hb : Below w.heap.size w w') : Cl0 w' ao k C := fun j hj => by
  obtain ⟨b, o, e, h1⟩ := h j hj
  exact ⟨b, o, e, h1.below hb⟩
theorem Rl0.below {w w' ao k R} (h : Rl0 w ao k R) (hb : Below w.heap.size w w') : Rl0 w' ao k R := fun j hj => by
  obtain ⟨b, o, e, h1, h2, h3⟩ := h j hj
  exact ⟨b, o, e, h1.below hb, h2.below hb, h3⟩
def lgN (K : Nat) (t : Nm) : Bool := lg t.n t.m K
def cl3 (K : Nat) (c : Lc) : Bool := lgN K c.cost && (lgN K c.lo.v && lgN K c.hi.v)
def rl3 (K : Nat) (r : Lr) : Bool := decide (r.tk ≤ 300) && (lgN K r.lo.v && (lgN K r.hi.v && nlg K r.T r.tk 0))
def clgs (K : Nat) (C : Nat → Lc) : Nat → Bool
  | 0 => true
  | i + 1 => clgs K C i && cl3 K (C i)
def rlgs (K : Nat) (R : Nat → Lr) : Nat → Bool
  | 0 => true
  | i + 1 => rlgs K R i && rl3 K (R i)
def lgM (K : Nat) (M : Mo) : Bool := (decide (64 < M.ck) || decide (64 < M.rk)) || (lgN K M.off && (clgs K M.C M.ck && rlgs K M.R M.rk))

set_option maxRecDepth 100000 in
set_option maxHeartbeats 4000000 in
theorem mLight_c {w : World} {M : Mo} {K : Nat} (hC : Cl0 w M.ca M.ck M.C) (hR : Rl0 w M.ra M.rk M.R) : Calls Tryz.prog 10 #[M.val, .int .i64 K] w fun r w' => r = .returned (.bool (lgM K M)) ∧ Below w.heap.size w w' := by
  obtain ⟨⟨s, x, n, c, f, y, m, d, g⟩, ca, ck, cc, C, ra, rk, rc, R⟩ := M
  have HC : Hid (Cl0 w ca ck C) := hC
  have HRL : Hid (Rl0 w ra rk R) := hR
  obtain ⟨v0, hv0⟩ : ∃ z, lgN K ⟨s, x, n, c, f, y, m, d, g⟩ = z := ⟨_, rfl⟩
  obtain ⟨ans, hans⟩ : ∃ z, lgM K ⟨⟨s, x, n, c, f, y, m, d, g⟩, ca, ck, cc, C, ra, rk, rc, R⟩ = z := ⟨_, rfl⟩
  rw [hans]
  have HA := hid (show ans = ((decide (64 < ck) || decide (64 < rk)) || (v0 && (clgs K C ck && rlgs K R rk))) from by rw [← hans, ← hv0]; rfl)
  have C0 : Hid (∀ w', Calls Tryz.prog 34 #[.agg #[.bool s, .slice x n c, .slice y m d], .int .i64 K] w' fun e w2 => e = .returned (.bool v0) ∧ Below w'.heap.size w' w2) := fun w' => hv0 ▸ rLightK_c K s x y n c m d w'
  clear hv0 hans hC hR
  show Calls Tryz.prog 10 #[.agg #[.bool s, .slice x n c, .slice y m d, .slice ca ck cc, .slice ra rk rc], .int .i64 K] w _
  by_cases h1 : 64 < ck
  · have HV : Hid (ans = true) := by show _ = _; rw [HA.out]; simp [h1]
    have e1 : (ck : Int) > 64 := by omega
    clear HA h1
    go_enter Tryz.func10, Tryz.ntmps10
    go_wp2
    go_ret
    refine ⟨?_, below_alloc (Below.refl _ _) _⟩
    rw [HV.out]; rfl
  by_cases h2 : 64 < rk
  · have HV : Hid (ans = true) := by show _ = _; rw [HA.out]; simp [h2]
    have e1 : ¬ (ck : Int) > 64 := by omega
    have e2 : (rk : Int) > 64 := by omega
    clear HA h1 h2
    go_enter Tryz.func10, Tryz.ntmps10
    go_wp2
    go_ret
    refine ⟨?_, below_alloc (Below.refl _ _) _⟩
    rw [HV.out]; rfl
  have HV : Hid (ans = (v0 && (clgs K C ck && rlgs K R rk))) := by show _ = _; rw [HA.out]; simp [h1, h2]
  have e1 : ¬ (ck : Int) > 64 := by omega
  have e2 : ¬ (rk : Int) > 64 := by omega
  have l1 : ck ≤ 64 := by omega
  have l2 : rk ≤ 64 := by omega
  clear HA h1 h2
  go_enter Tryz.func10, Tryz.ntmps10
  go_wp2_with fail
  refine (C0.out _).mono ?_
  rintro r w1 ⟨rfl, hb1⟩
  have k3 := kCb hb1 (a := ⟨w.heap.size, 3, none⟩) (v := .slice ca ck cc) (by simp [go_sem])
  have HK4 := hid (kCb hb1 (a := ⟨w.heap.size, 4, none⟩) (v := .slice ra rk rc) (by simp [go_sem]))
  have HB1 := hid ((below_alloc (Below.refl w.heap.size w) (.cells #[.bool s, .slice x n c, .slice y m d, .slice ca ck cc, .slice ra rk rc] 28)).trans (hb1.mono (by simp)))
  clear hb1 C0
  go_wp2_with fail
  go_loopw [5, 28] (fun ov t wr => ∃ (i : Nat) (v : Bool), i ≤ ck ∧ t = .int .i64 i ∧ ov = .bool v ∧ Hid (Below w1.heap.size w1 wr) ∧ Hid (v = (v0 && clgs K C i))) (fun _ t _ => ck - (intOf t).toNat)
  case atStart => exact ⟨0, v0, by omega, rfl, rfl, Below.refl _ _, by show _ = _; simp [clgs]⟩
  case round =>
    obtain ⟨i, v, hi, rfl, rfl, HB, HI⟩ := hrel
    by_cases hlt : i < ck
    · obtain ⟨b, o, rfl, hc⟩ := (HC.out.below (HB1.out.trans (HB.out.mono HB1.out.size))) i hlt
      obtain ⟨t1, ht1⟩ : ∃ t, lgN K (C i).cost = t := ⟨_, rfl⟩
      obtain ⟨t2, ht2⟩ : ∃ t, lgN K (C i).lo.v = t := ⟨_, rfl⟩
      obtain ⟨t3, ht3⟩ : ∃ t, lgN K (C i).hi.v = t := ⟨_, rfl⟩
      have HT := hid (show (v0 && clgs K C (i + 1)) = (v && (t1 && (t2 && t3))) from by
        rw [HI.out, ← ht1, ← ht2, ← ht3]; show (v0 && (clgs K C i && cl3 K (C i))) = _; rw [Bool.and_assoc]; rfl)
      obtain ⟨⟨z, ⟨s0, x0, n0, c0, f0, y0, m0, d0, g0⟩, ⟨i1, ⟨s1, x1, n1, c1, f1, y1, m1, d1, g1⟩⟩, ⟨i2, ⟨s2, x2, n2, c2, f2, y2, m2, d2, g2⟩⟩⟩, hCi⟩ : ∃ t, C i = t := ⟨_, rfl⟩
      rw [hCi] at hc ht1 ht2 ht3
      have C1 : Hid (∀ w', Calls Tryz.prog 34 #[.agg #[.bool s0, .slice x0 n0 c0, .slice y0 m0 d0], .int .i64 K] w' fun e w2 => e = .returned (.bool t1) ∧ Below w'.heap.size w' w2) := fun w' => ht1 ▸ rLightK_c K s0 x0 y0 n0 c0 m0 d0 w'
      have C2 : Hid (∀ w', Calls Tryz.prog 34 #[.agg #[.bool s1, .slice x1 n1 c1, .slice y1 m1 d1], .int .i64 K] w' fun e w2 => e = .returned (.bool t2) ∧ Below w'.heap.size w' w2) := fun w' => ht2 ▸ rLightK_c K s1 x1 y1 n1 c1 m1 d1 w'
      have C3 : Hid (∀ w', Calls Tryz.prog 34 #[.agg #[.bool s2, .slice x2 n2 c2, .slice y2 m2 d2], .int .i64 K] w' fun e w2 => e = .returned (.bool t3) ∧ Below w'.heap.size w' w2) := fun w' => ht3 ▸ rLightK_c K s2 x2 y2 n2 c2 m2 d2 w'
      have q0 : wr.cell? ⟨b, o + i * 12, none⟩ = some (.string z) := hc 0 _ rfl
      have q1 : wr.cell? ⟨b, o + i * 12 + 1, none⟩ = some (.bool s0) := hc 1 _ rfl
      have q2 : wr.cell? ⟨b, o + i * 12 + 2, none⟩ = some (.slice x0 n0 c0) := hc 2 _ rfl
      have q3 : wr.cell? ⟨b, o + i * 12 + 3, none⟩ = some (.slice y0 m0 d0) := hc 3 _ rfl
      have q4 : wr.cell? ⟨b, o + i * 12 + 4, none⟩ = some (.int .i64 i1) := hc 4 _ rfl
      have q5 : wr.cell? ⟨b, o + i * 12 + 5, none⟩ = some (.bool s1) := hc 5 _ rfl
      have q6 : wr.cell? ⟨b, o + i * 12 + 6, none⟩ = some (.slice x1 n1 c1) := hc 6 _ rfl
      have q7 : wr.cell? ⟨b, o + i * 12 + 7, none⟩ = some (.slice y1 m1 d1) := hc 7 _ rfl
      have q8 : wr.cell? ⟨b, o + i * 12 + 8, none⟩ = some (.int .i64 i2) := hc 8 _ rfl
      have q9 : wr.cell? ⟨b, o + i * 12 + 9, none⟩ = some (.bool s2) := hc 9 _ rfl
      have q10 : wr.cell? ⟨b, o + i * 12 + 10, none⟩ = some (.slice x2 n2 c2) := hc 10 _ rfl
      have q11 : wr.cell? ⟨b, o + i * 12 + 11, none⟩ = some (.slice y2 m2 d2) := hc 11 _ rfl
      have i1' : ((i : Nat) : Int) < ((ck : Nat) : Int) := by omega
      have hb5 := below_alloc (Below.refl wr.heap.size wr) (.cells #[.string z, .bool s0, .slice x0 n0 c0, .slice y0 m0 d0, .int .i64 i1, .bool s1, .slice x1 n1 c1, .slice y1 m1 d1, .int .i64 i2, .bool s2, .slice x2 n2 c2, .slice y2 m2 d2] 77)
      have HB5 := hid (HB.out.trans (hb5.mono HB.out.size))
      have b1 : (wr.alloc (.cells #[.string z, .bool s0, .slice x0 n0 c0, .slice y0 m0 d0, .int .i64 i1, .bool s1, .slice x1 n1 c1, .slice y1 m1 d1, .int .i64 i2, .bool s2, .slice x2 n2 c2, .slice y2 m2 d2] 77)).cell? ⟨wr.heap.size, 1, none⟩ = some (.bool s0) := by simp [go_sem]
      have b2 : (wr.alloc (.cells #[.string z, .bool s0, .slice x0 n0 c0, .slice y0 m0 d0, .int .i64 i1, .bool s1, .slice x1 n1 c1, .slice y1 m1 d1, .int .i64 i2, .bool s2, .slice x2 n2 c2, .slice y2 m2 d2] 77)).cell? ⟨wr.heap.size, 2, none⟩ = some (.slice x0 n0 c0) := by simp [go_sem]
      have b3 : (wr.alloc (.cells #[.string z, .bool s0, .slice x0 n0 c0, .slice y0 m0 d0, .int .i64 i1, .bool s1, .slice x1 n1 c1, .slice y1 m1 d1, .int .i64 i2, .bool s2, .slice x2 n2 c2, .slice y2 m2 d2] 77)).cell? ⟨wr.heap.size, 3, none⟩ = some (.slice y0 m0 d0) := by simp [go_sem]
      have b5 : (wr.alloc (.cells #[.string z, .bool s0, .slice x0 n0 c0, .slice y0 m0 d0, .int .i64 i1, .bool s1, .slice x1 n1 c1, .slice y1 m1 d1, .int .i64 i2, .bool s2, .slice x2 n2 c2, .slice y2 m2 d2] 77)).cell? ⟨wr.heap.size, 5, none⟩ = some (.bool s1) := by simp [go_sem]
      have b6 : (wr.alloc (.cells #[.string z, .bool s0, .slice x0 n0 c0, .slice y0 m0 d0, .int .i64 i1, .bool s1, .slice x1 n1 c1, .slice y1 m1 d1, .int .i64 i2, .bool s2, .slice x2 n2 c2, .slice y2 m2 d2] 77)).cell? ⟨wr.heap.size, 6, none⟩ = some (.slice x1 n1 c1) := by simp [go_sem]
      have b7 : (wr.alloc (.cells #[.string z, .bool s0, .slice x0 n0 c0, .slice y0 m0 d0, .int .i64 i1, .bool s1, .slice x1 n1 c1, .slice y1 m1 d1, .int .i64 i2, .bool s2, .slice x2 n2 c2, .slice y2 m2 d2] 77)).cell? ⟨wr.heap.size, 7, none⟩ = some (.slice y1 m1 d1) := by simp [go_sem]
      have b9 : (wr.alloc (.cells #[.string z, .bool s0, .slice x0 n0 c0, .slice y0 m0 d0, .int .i64 i1, .bool s1, .slice x1 n1 c1, .slice y1 m1 d1, .int .i64 i2, .bool s2, .slice x2 n2 c2, .slice y2 m2 d2] 77)).cell? ⟨wr.heap.size, 9, none⟩ = some (.bool s2) := by simp [go_sem]
      have b10 : (wr.alloc (.cells #[.string z, .bool s0, .slice x0 n0 c0, .slice y0 m0 d0, .int .i64 i1, .bool s1, .slice x1 n1 c1, .slice y1 m1 d1, .int .i64 i2, .bool s2, .slice x2 n2 c2, .slice y2 m2 d2] 77)).cell? ⟨wr.heap.size, 10, none⟩ = some (.slice x2 n2 c2) := by simp [go_sem]
      have b11 : (wr.alloc (.cells #[.string z, .bool s0, .slice x0 n0 c0, .slice y0 m0 d0, .int .i64 i1, .bool s1, .slice x1 n1 c1, .slice y1 m1 d1, .int .i64 i2, .bool s2, .slice x2 n2 c2, .slice y2 m2 d2] 77)).cell? ⟨wr.heap.size, 11, none⟩ = some (.slice y2 m2 d2) := by simp [go_sem]
      clear hCi ht1 ht2 ht3 hc hb5 HI
      go_upto_region 7 with fail
      clear q0 q1 q2 q3 q4 q5 q6 q7 q8 q9 q10 q11 HB
      generalize wr.alloc (.cells #[.string z, .bool s0, .slice x0 n0 c0, .slice y0 m0 d0, .int .i64 i1, .bool s1, .slice x1 n1 c1, .slice y1 m1 d1, .int .i64 i2, .bool s2, .slice x2 n2 c2, .slice y2 m2 d2] 77) = w5 at *
      cases v
      · go_wp2
        go_roundw
        case rel => exact ⟨i + 1, false, by omega, by go_num, rfl, HB5.out, by show _ = _; rw [HT.out]; rfl⟩
        case measure => simp [intOf]; omega
      · go_wp2_with fail
        refine (C1.out _).mono ?_
        rintro r w6 ⟨rfl, hb6⟩
        replace b5 := kCb hb6 b5
        replace b6 := kCb hb6 b6
        replace b7 := kCb hb6 b7
        replace b9 := kCb hb6 b9
        replace b10 := kCb hb6 b10
        replace b11 := kCb hb6 b11
        have HB6 := hid (HB5.out.trans (hb6.mono HB5.out.size))
        clear hb6 C1 HB5
        cases t1
        · go_wp2
          go_roundw
          case rel => exact ⟨i + 1, false, by omega, by go_num, rfl, HB6.out, by show _ = _; rw [HT.out]; rfl⟩
          case measure => simp [intOf]; omega
        go_wp2_with fail
        refine (C2.out _).mono ?_
        rintro r w7 ⟨rfl, hb7⟩
        replace b9 := kCb hb7 b9
        replace b10 := kCb hb7 b10
        replace b11 := kCb hb7 b11
        have HB7 := hid (HB6.out.trans (hb7.mono HB6.out.size))
        clear hb7 C2 HB6
        cases t2
        · go_wp2
          go_roundw
          case rel => exact ⟨i + 1, false, by omega, by go_num, rfl, HB7.out, by show _ = _; rw [HT.out]; rfl⟩
          case measure => simp [intOf]; omega
        go_wp2_with fail
        refine (C3.out _).mono ?_
        rintro r w8 ⟨rfl, hb8⟩
        have HB8 := hid (HB7.out.trans (hb8.mono HB7.out.size))
        clear hb8 C3 HB7
        cases t3
        · go_wp2
          go_roundw
          case rel => exact ⟨i + 1, false, by omega, by go_num, rfl, HB8.out, by show _ = _; rw [HT.out]; rfl⟩
          case measure => simp [intOf]; omega
        go_wp2
        go_roundw
        case rel => exact ⟨i + 1, true, by omega, by go_num, rfl, HB8.out, by show _ = _; rw [HT.out]; rfl⟩
        case measure => simp [intOf]; omega
    · have e3 : i = ck := by omega
      have i2 : ¬ (((i : Nat) : Int) < ((ck : Nat) : Int)) := by omega
      have HV1 := hid (show ans = (v && rlgs K R rk) from by rw [HV.out, HI.out, e3, Bool.and_assoc])
      have k4 := kCb HB.out HK4.out
      have HB5 := hid (HB1.out.trans (HB.out.mono HB1.out.size))
      clear e3 HB HC HK4 HB1 k3 HI HV
      generalize wr = wa at *
      go_wp2_with fail
      go_loopw [5, 57] (fun ov t wr => ∃ (i : Nat) (u : Bool), i ≤ rk ∧ t = .int .i64 i ∧ ov = .bool u ∧ Hid (Below wa.heap.size wa wr) ∧ Hid (u = (v && rlgs K R i))) (fun _ t _ => rk - (intOf t).toNat)
      case atStart => exact ⟨0, v, by omega, rfl, rfl, Below.refl _ _, by show _ = _; simp [rlgs]⟩
      case round =>
        obtain ⟨i, u, hi, rfl, rfl, HB, HI⟩ := hrel
        by_cases hlt : i < rk
        · obtain ⟨b, o, rfl, hc, hTr, htk⟩ := (HRL.out.below (HB5.out.trans (HB.out.mono HB5.out.size))) i hlt
          obtain ⟨t2, ht2⟩ : ∃ t, lgN K (R i).lo.v = t := ⟨_, rfl⟩
          obtain ⟨t3, ht3⟩ : ∃ t, lgN K (R i).hi.v = t := ⟨_, rfl⟩
          have hT : (v && rlgs K R (i + 1)) = (u && (decide ((R i).tk ≤ 300) && (t2 && (t3 && nlg K (R i).T (R i).tk 0)))) := by
            rw [HI.out, ← ht2, ← ht3]; show (v && (rlgs K R i && rl3 K (R i))) = _; rw [Bool.and_assoc]; rfl
          obtain ⟨⟨z, ⟨i1, ⟨s1, x1, n1, c1, f1, y1, m1, d1, g1⟩⟩, ⟨i2, ⟨s2, x2, n2, c2, f2, y2, m2, d2, g2⟩⟩, ta, tk, tc, tcol, tt⟩, hCi⟩ : ∃ t, R i = t := ⟨_, rfl⟩
          rw [hCi] at hc ht2 ht3 hTr htk hT
          have HT : Hid ((v && rlgs K R (i + 1)) = (u && (decide (tk ≤ 300) && (t2 && (t3 && nlg K tt tk 0))))) := hT
          replace htk : tk ≤ 9223372036854775807 := htk
          have C2 : Hid (∀ w', Calls Tryz.prog 34 #[.agg #[.bool s1, .slice x1 n1 c1, .slice y1 m1 d1], .int .i64 K] w' fun e w2 => e = .returned (.bool t2) ∧ Below w'.heap.size w' w2) := fun w' => ht2 ▸ rLightK_c K s1 x1 y1 n1 c1 m1 d1 w'
          have C3 : Hid (∀ w', Calls Tryz.prog 34 #[.agg #[.bool s2, .slice x2 n2 c2, .slice y2 m2 d2], .int .i64 K] w' fun e w2 => e = .returned (.bool t3) ∧ Below w'.heap.size w' w2) := fun w' => ht3 ▸ rLightK_c K s2 x2 y2 n2 c2 m2 d2 w'
          have q0 : wr.cell? ⟨b, o + i * 10, none⟩ = some (.string z) := hc 0 _ rfl
          have q1 : wr.cell? ⟨b, o + i * 10 + 1, none⟩ = some (.int .i64 i1) := hc 1 _ rfl
          have q2 : wr.cell? ⟨b, o + i * 10 + 2, none⟩ = some (.bool s1) := hc 2 _ rfl
          have q3 : wr.cell? ⟨b, o + i * 10 + 3, none⟩ = some (.slice x1 n1 c1) := hc 3 _ rfl
          have q4 : wr.cell? ⟨b, o + i * 10 + 4, none⟩ = some (.slice y1 m1 d1) := hc 4 _ rfl
          have q5 : wr.cell? ⟨b, o + i * 10 + 5, none⟩ = some (.int .i64 i2) := hc 5 _ rfl
          have q6 : wr.cell? ⟨b, o + i * 10 + 6, none⟩ = some (.bool s2) := hc 6 _ rfl
          have q7 : wr.cell? ⟨b, o + i * 10 + 7, none⟩ = some (.slice x2 n2 c2) := hc 7 _ rfl
          have q8 : wr.cell? ⟨b, o + i * 10 + 8, none⟩ = some (.slice y2 m2 d2) := hc 8 _ rfl
          have q9 : wr.cell? ⟨b, o + i * 10 + 9, none⟩ = some (.slice ta tk tc) := hc 9 _ rfl
          have i1' : ((i : Nat) : Int) < ((rk : Nat) : Int) := by omega
          have hb5 := below_alloc (Below.refl wr.heap.size wr) (.cells #[.string z, .int .i64 i1, .bool s1, .slice x1 n1 c1, .slice y1 m1 d1, .int .i64 i2, .bool s2, .slice x2 n2 c2, .slice y2 m2 d2, .slice ta tk tc] 75)
          have HB6 := hid (HB.out.trans (hb5.mono HB.out.size))
          have HTr : Hid (Tr (wr.alloc (.cells #[.string z, .int .i64 i1, .bool s1, .slice x1 n1 c1, .slice y1 m1 d1, .int .i64 i2, .bool s2, .slice x2 n2 c2, .slice y2 m2 d2, .slice ta tk tc] 75)) ta tk tcol tt) := Tr.below hTr hb5
          have b2 : (wr.alloc (.cells #[.string z, .int .i64 i1, .bool s1, .slice x1 n1 c1, .slice y1 m1 d1, .int .i64 i2, .bool s2, .slice x2 n2 c2, .slice y2 m2 d2, .slice ta tk tc] 75)).cell? ⟨wr.heap.size, 2, none⟩ = some (.bool s1) := by simp [go_sem]
          have b3 : (wr.alloc (.cells #[.string z, .int .i64 i1, .bool s1, .slice x1 n1 c1, .slice y1 m1 d1, .int .i64 i2, .bool s2, .slice x2 n2 c2, .slice y2 m2 d2, .slice ta tk tc] 75)).cell? ⟨wr.heap.size, 3, none⟩ = some (.slice x1 n1 c1) := by simp [go_sem]
          have b4 : (wr.alloc (.cells #[.string z, .int .i64 i1, .bool s1, .slice x1 n1 c1, .slice y1 m1 d1, .int .i64 i2, .bool s2, .slice x2 n2 c2, .slice y2 m2 d2, .slice ta tk tc] 75)).cell? ⟨wr.heap.size, 4, none⟩ = some (.slice y1 m1 d1) := by simp [go_sem]
          have b6 : (wr.alloc (.cells #[.string z, .int .i64 i1, .bool s1, .slice x1 n1 c1, .slice y1 m1 d1, .int .i64 i2, .bool s2, .slice x2 n2 c2, .slice y2 m2 d2, .slice ta tk tc] 75)).cell? ⟨wr.heap.size, 6, none⟩ = some (.bool s2) := by simp [go_sem]
          have b7 : (wr.alloc (.cells #[.string z, .int .i64 i1, .bool s1, .slice x1 n1 c1, .slice y1 m1 d1, .int .i64 i2, .bool s2, .slice x2 n2 c2, .slice y2 m2 d2, .slice ta tk tc] 75)).cell? ⟨wr.heap.size, 7, none⟩ = some (.slice x2 n2 c2) := by simp [go_sem]
          have b8 : (wr.alloc (.cells #[.string z, .int .i64 i1, .bool s1, .slice x1 n1 c1, .slice y1 m1 d1, .int .i64 i2, .bool s2, .slice x2 n2 c2, .slice y2 m2 d2, .slice ta tk tc] 75)).cell? ⟨wr.heap.size, 8, none⟩ = some (.slice y2 m2 d2) := by simp [go_sem]
          have b9 : (wr.alloc (.cells #[.string z, .int .i64 i1, .bool s1, .slice x1 n1 c1, .slice y1 m1 d1, .int .i64 i2, .bool s2, .slice x2 n2 c2, .slice y2 m2 d2, .slice ta tk tc] 75)).cell? ⟨wr.heap.size, 9, none⟩ = some (.slice ta tk tc) := by simp [go_sem]
          clear hCi ht2 ht3 hc hb5 HI hTr hT
          go_upto_region 12 with fail
          clear q0 q1 q2 q3 q4 q5 q6 q7 q8 q9 HB
          generalize wr.alloc (.cells #[.string z, .int .i64 i1, .bool s1, .slice x1 n1 c1, .slice y1 m1 d1, .int .i64 i2, .bool s2, .slice x2 n2 c2, .slice y2 m2 d2, .slice ta tk tc] 75) = w5 at *
          cases u
          · go_wp2_with fail
            go_loopw [5, 10] (fun ov t wz => t = .int .i64 0 ∧ ov = .bool false ∧ wz = w5) (fun _ _ _ => 0)
            case atStart => exact ⟨rfl, rfl, rfl⟩
            case round =>
              obtain ⟨rfl, rfl, rfl⟩ := hrel
              go_wp2
              go_roundw
              case rel => exact ⟨i + 1, false, by omega, by go_num, rfl, HB6.out, by show _ = _; rw [HT.out]; simp⟩
              case measure => simp [intOf]; omega
          by_cases hd : tk ≤ 300
          case neg =>
            have d1 : decide ((tk : Int) ≤ 300) = false := by simp; omega
            have HD := hid (show decide (tk ≤ 300) = false from by simp; omega)
            clear hd
            rw [HD.out] at HT
            go_wp2_with fail
            go_loopw [5, 10] (fun ov t wz => t = .int .i64 0 ∧ ov = .bool false ∧ wz = w5) (fun _ _ _ => 0)
            case atStart => exact ⟨rfl, rfl, rfl⟩
            case round =>
              obtain ⟨rfl, rfl, rfl⟩ := hrel
              go_wp2
              go_roundw
              case rel => exact ⟨i + 1, false, by omega, by go_num, rfl, HB6.out, by show _ = _; rw [HT.out]; simp⟩
              case measure => simp [intOf]; omega
          have d1 : decide ((tk : Int) ≤ 300) = true := by simp; omega
          have HD := hid (show decide (tk ≤ 300) = true from by simp; omega)
          rw [HD.out] at HT
          go_wp2_with fail
          refine (C2.out _).mono ?_
          rintro r w7 ⟨rfl, hb7⟩
          replace b6 := kCb hb7 b6; replace b7 := kCb hb7 b7; replace b8 := kCb hb7 b8; replace b9 := kCb hb7 b9
          have HB7 := hid (HB6.out.trans (hb7.mono HB6.out.size))
          replace HTr := hid (HTr.out.below hb7)
          clear hb7 C2 HB6
          cases t2
          · go_wp2_with fail
            go_loopw [5, 10] (fun ov t wz => t = .int .i64 0 ∧ ov = .bool false ∧ wz = w7) (fun _ _ _ => 0)
            case atStart => exact ⟨rfl, rfl, rfl⟩
            case round =>
              obtain ⟨rfl, rfl, rfl⟩ := hrel
              go_wp2
              go_roundw
              case rel => exact ⟨i + 1, false, by omega, by go_num, rfl, HB7.out, by show _ = _; rw [HT.out]; simp⟩
              case measure => simp [intOf]; omega
          go_wp2_with fail
          refine (C3.out _).mono ?_
          rintro r w8 ⟨rfl, hb8⟩
          replace b9 := kCb hb8 b9
          have HB8 := hid (HB7.out.trans (hb8.mono HB7.out.size))
          replace HTr := hid (HTr.out.below hb8)
          clear hb8 C3 HB7 b6 b7 b8 b2 b3 b4
          cases t3
          · go_wp2_with fail
            go_loopw [5, 10] (fun ov t wz => t = .int .i64 0 ∧ ov = .bool false ∧ wz = w8) (fun _ _ _ => 0)
            case atStart => exact ⟨rfl, rfl, rfl⟩
            case round =>
              obtain ⟨rfl, rfl, rfl⟩ := hrel
              go_wp2
              go_roundw
              case rel => exact ⟨i + 1, false, by omega, by go_num, rfl, HB8.out, by show _ = _; rw [HT.out]; simp⟩
              case measure => simp [intOf]; omega
          go_wp2_with fail
          go_loopw [5, 10] (fun ov t wz => ∃ (k : Nat) (vv : Bool), k ≤ tk ∧ t = .int .i64 k ∧ ov = .bool vv ∧ Hid (Below w8.heap.size w8 wz) ∧ Hid ((vv && nlg K tt (tk - k) k) = nlg K tt tk 0)) (fun _ t _ => tk - (intOf t).toNat)
          case atStart => exact ⟨0, true, by omega, rfl, rfl, Below.refl _ _, by show _ = _; simp⟩
          case round =>
            rename_i wz0 _ _ _ _ _
            obtain ⟨k, vv, hk, rfl, rfl, HBz, HK⟩ := hrel
            have b9z := kCb HBz.out b9
            have HBo := hid (HB8.out.trans (HBz.out.mono HB8.out.size))
            cases vv
            · have HU := hid (show nlg K tt tk 0 = false from by rw [← HK.out]; rfl)
              clear HK HBz
              go_wp2
              go_roundw
              case rel => exact ⟨i + 1, false, by omega, by go_num, rfl, HBo.out, by show _ = _; rw [HT.out, HU.out]; simp⟩
              case measure => simp [intOf]; omega
            · by_cases hkt : k < tk
              · obtain ⟨tb, tq, hta, ⟨_, g1', g2', g3'⟩, _⟩ := (HTr.out.below HBz.out) k hkt
                obtain ⟨⟨sn, xn, nn, cn, fn, yn, mn, dn', gn⟩, hTk⟩ : ∃ t, tt k = t := ⟨_, rfl⟩
                obtain ⟨t5, ht5⟩ : ∃ t, lg (tt k).n (tt k).m K = t := ⟨_, rfl⟩
                obtain ⟨r, hr⟩ : ∃ r, tk - k = r + 1 := ⟨tk - k - 1, by omega⟩
                have HN := hid (show (t5 && nlg K tt (tk - (k + 1)) (k + 1)) = nlg K tt tk 0 from by
                  rw [← HK.out, hr, show tk - (k + 1) = r by omega, ← ht5]; rfl)
                rw [hTk] at g1' g2' g3' ht5
                subst hta
                have C5 : Hid (∀ w', Calls Tryz.prog 34 #[.agg #[.bool sn, .slice xn nn cn, .slice yn mn dn'], .int .i64 K] w' fun e w2 => e = .returned (.bool t5) ∧ Below w'.heap.size w' w2) := fun w' => ht5 ▸ rLightK_c K sn xn yn nn cn mn dn' w'
                have i5 : ((k : Nat) : Int) < ((tk : Nat) : Int) := by omega
                clear hTk ht5 hr HK
                go_wp2_with fail
                refine (C5.out _).mono ?_
                rintro r w9 ⟨rfl, hb9⟩
                have HB9 := hid (HBz.out.trans (hb9.mono HBz.out.size))
                clear hb9 HBz C5 HBo
                go_wp2
                go_roundw
                case rel => exact ⟨k + 1, t5, by omega, by go_num, rfl, HB9.out, HN.out⟩
                case measure => simp [intOf]; omega
              · have e5 : k = tk := by omega
                have HU := hid (show nlg K tt tk 0 = true from by rw [← HK.out, e5, Nat.sub_self]; rfl)
                have i5 : ¬ (((k : Nat) : Int) < ((tk : Nat) : Int)) := by omega
                clear HK HBz e5
                go_wp2
                go_roundw
                case rel => exact ⟨i + 1, true, by omega, by go_num, rfl, HBo.out, by show _ = _; rw [HT.out, HU.out]; simp⟩
                case measure => simp [intOf]; omega
        · have e3 : i = rk := by omega
          have i2 : ¬ (((i : Nat) : Int) < ((rk : Nat) : Int)) := by omega
          have HV2 := hid (show ans = u from by rw [HV1.out, HI.out, e3])
          have HB6 := hid (HB5.out.trans (HB.out.mono HB5.out.size))
          clear e3 HB HI
          go_wp2
          go_ret
          refine ⟨?_, HB6.out⟩
          rw [HV2.out]; rfl
end Go.Proofs.YtbmfcogfgdggkaaGreat
namespace Go.Proofs.YtbmfcogfgdggkaaGreat
open Go.RowKit

/-- The same number elsewhere. -/
def Sn (t t' : Nm) : Prop := t'.s = t.s ∧ t'.n = t.n ∧ t'.f = t.f ∧ t'.m = t.m ∧ t'.g = t.g
theorem Sn.nfB {t t' : Nm} (h : Sn t t') : nfB t' = nfB t := by
  obtain ⟨h1, h2, h3, h4, h5⟩ := h
  unfold Go.Proofs.YtbmfcogfgdggkaaGreat.nfB
  rw [h1, h2, h3, h4, h5]
theorem tfr_sn {col : Nat → Int} {T T' : Nat → Nm} : ∀ {r i : Nat} {last : Int}, (∀ j, i ≤ j → j < i + r → Sn (T j) (T' j)) → tfr col T' r i last = tfr col T r i last := by
  intro r
  induction r with
  | zero => intro i last _; rfl
  | succ r ih =>
    intro i last h
    have h0 := h i (by omega) (by omega)
    simp only [tfr]
    rw [ih (fun j a b => h j (by omega) (by omega)), h0.nfB, h0.2.1]
theorem Rn.sn {L : Nat} {w w' : World} {t t' : Nm} {q : Rat} (h : Rn L w t.s t.x t.n t.c t.f t.y t.m t.d t.g q) (hs : Sn t t') (hr : Rw w' t'.x t'.n t'.c t'.f t'.y t'.m t'.d t'.g) : Rn L w' t'.s t'.x t'.n t'.c t'.f t'.y t'.m t'.d t'.g q := by
  obtain ⟨s, x, n, c, f, y, m, d, g⟩ := t
  obtain ⟨s', x', n', c', f', y', m', d', g'⟩ := t'
  obtain ⟨rfl, rfl, rfl, rfl, rfl⟩ := hs
  exact ⟨⟨hr.rx, hr.lx, h.num.wf, hr.cx, hr.nx, h.num.val⟩, ⟨hr.ry, hr.ly, h.den.wf, hr.cy, hr.ny, h.den.val⟩, h.ln, h.ld⟩

end Go.Proofs.YtbmfcogfgdggkaaGreat
namespace Go.Proofs.YtbmfcogfgdggkaaGreat
open Go.RowKit

theorem step_append_W {P : Program} (w : World) {ops : Array Oper} {o : Oper} {a : Act} {K : Act → World → Prop} {Q : Exit → Act → World → Prop} {E : Prop} (hgd : o.guard = none) (s x : Operand) (t : TypeId)
    (ho : o.op = .call { callee := .builtin .append, args := #[s, x], argTypes := #[t, t] })
    (base : Nat) (e : TypeId) (i : TypeInfo) (z : Value) (size bytes : Nat) (ht : P.underlying t = some (.slice e)) (hi : P.info? e = some i) (hz : i.zero = some z)
    (hsize : i.size = size) (hby : i.bytes = bytes) (hzs : z.cells.size = size) (hsz : 0 < size) (hzu : NoU z.cells)
    (v : Value) (n : Nat) (xs : List Value) (hs : a.eval s = v) (hown : RowG e size base w v n xs)
    (ad : Addr) (m c : Nat) (news : List Value) (hx : a.eval x = .slice (some ad) m c) (hl : news.length = m * size) (hnews : ∀ j u, news[j]? = some u → w.cell? (ad.add j) = some u) (h1 : ∀ u ∈ news, u.oneCell' = true) (hnu : ∀ u ∈ news, ∀ z, u ≠ .int .u64 z)
    (hm0 : 0 < m) (h63 : n + m ≤ maxLen) (hbytes : (n + m) * bytes ≤ 140737488355328) (hbase : base ≤ w.heap.size)
    (hK : ∀ g cap' w', RowG e size base w' (.slice (some ⟨g, 0, none⟩) (n + m) cap') (n + m) (xs ++ news) → w.grownBy w' v.ownBlock → Kp w w' → (v.ownBlock = some g ∨ w.heap.size ≤ g) → K (a.put o.dst (.slice (some ⟨g, 0, none⟩) (n + m) cap')) w') : if Region.wanted o (yielded ops a.tmps) = true then Oper.wp P o a w K Q else E := by
  subst hsize; subst hby
  obtain ⟨v', w', hrun, h1', h2', h3'⟩ := run_append_own (P := P) w base t o.type e i z i.size i.bytes ht hi hz rfl rfl hzs hsz v n xs hown.owns ad m c news hl hnews h1 h63 hbytes hbase
  have hlen : (xs ++ news).length = (n + m) * i.size := by rw [List.length_append, hown.1, hl, Nat.add_mul]
  have hzc : ∀ k, NoU (Builtin.zeroCells z.cells k) := by
    intro k j y hj
    simp only [Builtin.zeroCells] at hj
    have hm := Array.mem_of_getElem? hj
    obtain ⟨q, _, he⟩ := Array.mem_map.1 hm
    have hlt : q % z.cells.size < z.cells.size := Nat.mod_lt _ (by omega)
    rw [getElem!_pos z.cells (q % z.cells.size) hlt] at he
    exact hzu (q % z.cells.size) y (by rw [Array.getElem?_eq_getElem hlt, he])
  have hnu' : NoU news.toArray := nou_list hnu
  have hw : ∃ g cap' cur', v' = .slice (some ⟨g, 0, none⟩) (n + m) cap' ∧ base ≤ g ∧ w'.heap[g]? = some (.cells cur' e (0, 0)) ∧ n + m ≤ cap' ∧ cap' ≤ maxLen ∧ cur'.size = cap' * i.size ∧ cur'.toList.take ((n + m) * i.size) = xs ++ news ∧ NoU cur' ∧ Kp w w' ∧ (v.ownBlock = some g ∨ w.heap.size ≤ g) := by
    have hsm : n + m ≤ 9223372036854775807 := by unfold maxLen at h63; omega
    rcases h1'.2 with ⟨hv0, hn0⟩ | ⟨g', cap', cur', hv', hb', hg', hn', hc', hs', ht'⟩
    · omega
    · refine ⟨g', cap', cur', hv', hb', hg', hn', hc', hs', ht', ?_⟩
      rcases hown.2 with ⟨rfl, rfl⟩ | ⟨g, cap, cur, rfl, hbg, hg, hnc, hcm, hcs, htake, hnuc⟩
      · have hx0 : xs = [] := List.eq_nil_of_length_eq_zero (by simpa using hown.1)
        subst hx0
        have e1 := run_append_nil (P := P) w t o.type e i z ht hi hz ad m c news hl hnews hm0 (by omega) (by rw [Nat.zero_add] at hbytes; omega)
        rw [e1] at hrun
        injection hrun with e2 e3
        subst e3
        rw [hv'] at e2
        injection e2 with e4
        injection e4 with e5
        injection e5 with e6
        subst e6
        have e7 := heap_alloc_new w.drew (.cells (news.toArray ++ Builtin.zeroCells z.cells (grownCap w m 0 e - m)) e)
        rw [show w.heap.size = w.drew.heap.size from rfl, e7] at hg'
        injection hg' with e8
        injection e8 with e9
        rw [← e9]
        exact ⟨nou_append hnu' (hzc _), (Kp.refl w).drew.alloc _, .inr (Nat.le_refl _)⟩
      · by_cases hroom : n + m ≤ cap
        · have e1 := run_append_room (P := P) w t o.type e i ht hi g n cap cur hg ad m c news hl hnews h1 hroom (by rw [hl, hcs, ← Nat.add_mul]; exact Nat.mul_le_mul_right _ hroom)
          rw [e1] at hrun
          injection hrun with e2 e3
          rw [hv'] at e2
          injection e2 with e4
          injection e4 with e5
          injection e5 with e6
          subst e6
          have e7 : w'.heap[g]? = some (.cells (cur.toList.take (n * i.size) ++ news ++ cur.toList.drop (n * i.size + news.length)).toArray e (0, 0)) := by rw [← e3]; exact setRow_heap w g cur _ e _ hg
          rw [e7] at hg'
          injection hg' with e8
          injection e8 with e9
          rw [← e9]
          refine ⟨nou_list ?_, ⟨h2'.os, h2'.tape, h2'.output, h2'.size, fun k hk => ?_⟩, .inl rfl⟩
          · intro u hu
            rcases List.mem_append.1 hu with hu | hu
            · rcases List.mem_append.1 hu with hu | hu
              · exact nou_mem hnuc u (List.mem_of_mem_take hu)
              · exact hnu u hu
            · exact nou_mem hnuc u (List.mem_of_mem_drop hu)
          · by_cases hkg : k = g
            · subst hkg; exact .inr ⟨cur, e, (0, 0), hg, hnuc⟩
            · exact .inl (h2'.block k hk (fun e => hkg (by simpa [Value.ownBlock] using e)))
        · have holds : ∀ j u, xs[j]? = some u → w.cell? ((⟨g, 0, none⟩ : Addr).add j) = some u := World.ownsRow.cells hown.owns (g := g) rfl
          have e1 := run_append_grow (P := P) w t o.type e i z ht hi hz ⟨g, 0, none⟩ n cap xs hown.1 holds ad m c news hl hnews (by omega) (by omega) (growslice_fits (by omega) hbytes)
          rw [e1] at hrun
          injection hrun with e2 e3
          subst e3
          rw [hv'] at e2
          injection e2 with e4
          injection e4 with e5
          injection e5 with e6
          subst e6
          have e7 := heap_alloc_new w.drew (.cells (xs.toArray ++ news.toArray ++ Builtin.zeroCells z.cells (grownCap w (n + m) cap e - (n + m))) e)
          rw [show w.heap.size = w.drew.heap.size from rfl, e7] at hg'
          injection hg' with e8
          injection e8 with e9
          rw [← e9]
          refine ⟨nou_append (nou_append (nou_list ?_) hnu') (hzc _), (Kp.refl w).drew.alloc _, .inr (Nat.le_refl _)⟩
          intro u hu
          rw [← htake] at hu
          exact nou_mem hnuc u (List.mem_of_mem_take hu)
  obtain ⟨g, cap', cur', rfl, a1, a2, a3, a4, a5, a6, a7, a8, a9⟩ := hw
  have hwt : Region.wanted o (yielded ops a.tmps) = true := by simp [Region.wanted, hgd]
  rw [if_pos hwt]
  unfold Oper.wp execOp
  simp only [ho, resolve, invoke, builtin, Sem.run_bind, Sem.run_pure, Result.andThen_ok, List.map_toArray, List.map_cons, List.map_nil, hs, hx, hrun]
  exact hK g cap' w' ⟨hlen, .inr ⟨g, cap', cur', rfl, a1, a2, a3, a4, a5, a6, a7⟩⟩ h2' a8 a9
theorem step_append_oneW {P : Program} (w0 : World) {ops : Array Oper} {o : Oper} {a : Act} {K : Act → World → Prop} {Q : Exit → Act → World → Prop} {E : Prop} (hgd : o.guard = none) (s x : Operand) (t : TypeId)
    (ho : o.op = .call { callee := .builtin .append, args := #[s, x], argTypes := #[t, t] })
    (base : Nat) (e : TypeId) (bytes sz : Nat) (z : Value) (ht : P.underlying t = some (.slice e)) (hi : (P.info? e).map (fun i => (i.zero, i.size, i.bytes)) = some (some z, sz, bytes)) (hzs : z.cells.size = sz) (hsz : 0 < sz) (hzu : NoU z.cells)
    (v : Value) (n : Nat) (xs : List Value) (hs : a.eval s = v) (hown : RowG e sz base w0 v n xs) (c : Array Value) (hx : a.eval x = .slice (some ⟨w0.heap.size, 0, none⟩) 1 1) (hc : c.size = sz) (h1 : ∀ u ∈ c.toList, u.oneCell' = true) (hnu : ∀ u ∈ c.toList, ∀ q, u ≠ .int .u64 q) (hn : n + 1 ≤ 9223372036854775807) (hby : (n + 1) * bytes ≤ 140737488355328) (hbase : base ≤ w0.heap.size)
    (hK : ∀ g cap' w', RowG e sz base w' (.slice (some ⟨g, 0, none⟩) (n + 1) cap') (n + 1) (xs ++ c.toList) → Kp w0 w' → (∀ b0 : World, Below b0.heap.size b0 w0 → b0.heap.size ≤ base → Below b0.heap.size b0 w') → (∀ k, k < w0.heap.size → v.ownBlock ≠ some k → w'.heap[k]? = w0.heap[k]?) → (v.ownBlock = some g ∨ w0.heap.size ≤ g) → K (a.put o.dst (.slice (some ⟨g, 0, none⟩) (n + 1) cap')) w') : if Region.wanted o (yielded ops a.tmps) = true then Oper.wp P o a (w0.alloc (.cells c e)) K Q else E := by
  obtain ⟨i, hi, hz0, hz1, hz2⟩ := info_parts hi
  have hal := below_alloc (Below.refl w0.heap.size w0) (.cells c e)
  have hblk := heap_alloc_new w0 (.cells c e)
  have hrow := hown.below hal
  refine step_append_W (w0.alloc (.cells c e)) hgd s x t ho base e i z sz bytes ht hi hz0 hz1 hz2 hzs hsz hzu v n xs hs hrow ⟨w0.heap.size, 0, none⟩ 1 1 c.toList hx (by simp [hc]) (fun j u hu => ?_) h1 hnu (by decide) (by unfold maxLen; omega) ?_ (by simp; omega) ?_
  · rw [addr_add, Nat.zero_add]
    simp only [World.cell?, hblk]
    simpa using hu
  · exact hby
  · intro g cap' w' hr hgr hkp hwh
    refine hK g cap' w' hr ((Kp.of_below hal).trans hkp) (fun b0 hb hle => ?_) (fun k hk hne => (hgr.block k (by simp; omega) (fun e => hne e.symm)).trans (hal.block k hk)) (hwh.imp id (fun h => by simp at h; omega))
    have h2 : Below b0.heap.size b0 (w0.alloc (.cells c e)) := hb.trans (hal.mono hb.size)
    exact h2.grown hgr (by have := hb.size; simp; omega) (fun k hk => by have := (hrow.lt k hk).1; omega)
end Go.Proofs.YtbmfcogfgdggkaaGreat
namespace Go.Proofs.YtbmfcogfgdggkaaGreat
open Go.RowKit

/-- What Twin answers: the same list elsewhere, in new memory. -/
def TrAns (w w' : World) (e : Ending) (k : Nat) (col : Nat → Int) (T : Nat → Nm) : Prop := ∃ aw cw T', e = .returned (.slice aw k cw) ∧ Below w.heap.size w w' ∧ (k ≤ cw ∧ cw ≤ 9223372036854775807) ∧ (∀ b o s, aw = some ⟨b, o, s⟩ → w.heap.size ≤ b) ∧ Hid (Tr w' aw k col T' ∧ ∀ j, j < k → Sn (T j) (T' j))

set_option maxRecDepth 100000 in
set_option maxHeartbeats 4000000 in
theorem twinTr_c {w : World} {ao : Option Addr} {k cap : Nat} {col : Nat → Int} {T : Nat → Nm} (h : Tr w ao k col T) (hk : k ≤ 2199023255552) (hl : ∀ j, j < k → (T j).n ≤ 17592186044416 ∧ (T j).m ≤ 17592186044416) :
    Calls Tryz.prog 38 #[.slice ao k cap] w fun e w' => TrAns w w' e k col T := by
  have H := hid h
  clear h
  go_enter Tryz.func38, Tryz.ntmps38
  go_wp2_with fail
  go_loopw [3, 8] (fun ov t wr => ∃ (i : Nat) (T' : Nat → Nm), i ≤ k ∧ t = .int .i64 i ∧ Hid (Below w.heap.size w wr) ∧ Hid (RowG 62 4 w.heap.size wr ov i (tcells (tls i col T'))) ∧ Hid (∀ j, j < i → Sn (T j) (T' j) ∧ Rw wr (T' j).x (T' j).n (T' j).c (T' j).f (T' j).y (T' j).m (T' j).d (T' j).g)) (fun _ t _ => k - (intOf t).toNat)
  case atStart => exact ⟨0, T, by omega, rfl, Below.refl _ _, rowG_nil _ _ _ _, fun j hj => by omega⟩
  case round =>
    obtain ⟨i, T', hi, rfl, HB, HRow, HT⟩ := hrel
    by_cases hlt : i < k
    · obtain ⟨b, o, rfl, hc, hn⟩ := (H.out.below HB.out) i hlt
      obtain ⟨⟨s, x, n, c, f, y, m, d, g⟩, hTi⟩ : ∃ t, T i = t := ⟨_, rfl⟩
      rw [hTi] at hc hn
      obtain ⟨z, hz⟩ : ∃ z, col i = z := ⟨_, rfl⟩
      rw [hz] at hc
      obtain ⟨x0, x1, x2, x3⟩ := hc
      replace x0 : wr.cell? ⟨b, o + i * 4, none⟩ = some (.int .i64 z) := x0
      replace x1 : wr.cell? ⟨b, o + i * 4 + 1, none⟩ = some (.bool s) := x1
      replace x2 : wr.cell? ⟨b, o + i * 4 + 2, none⟩ = some (.slice x n c) := x2
      replace x3 : wr.cell? ⟨b, o + i * 4 + 3, none⟩ = some (.slice y m d) := x3
      have i1 : ((i : Nat) : Int) < ((k : Nat) : Int) := by omega
      obtain ⟨hn10, hm10⟩ := hl i hlt
      rw [hTi] at hn10 hm10
      have HN := hid hn; have HZ := hid hz; have HTi := hid hTi
      clear hn hz hTi
      go_upto_region 5 with fail
      have hb5 := below_alloc (Below.refl wr.heap.size wr) (.cells #[.int .i64 z, .bool s, .slice x n c, .slice y m d] 62)
      have a0 : (wr.alloc (.cells #[.int .i64 z, .bool s, .slice x n c, .slice y m d] 62)).cell? ⟨wr.heap.size, 0, none⟩ = some (.int .i64 z) := by simp [go_sem]
      have a1 : (wr.alloc (.cells #[.int .i64 z, .bool s, .slice x n c, .slice y m d] 62)).cell? ⟨wr.heap.size, 1, none⟩ = some (.bool s) := by simp [go_sem]
      have a2 : (wr.alloc (.cells #[.int .i64 z, .bool s, .slice x n c, .slice y m d] 62)).cell? ⟨wr.heap.size, 2, none⟩ = some (.slice x n c) := by simp [go_sem]
      have a3 : (wr.alloc (.cells #[.int .i64 z, .bool s, .slice x n c, .slice y m d] 62)).cell? ⟨wr.heap.size, 3, none⟩ = some (.slice y m d) := by simp [go_sem]
      have hne : u3.ownBlock ≠ some wr.heap.size := fun e => by have := (HRow.out.lt _ e).2; omega
      replace HN := hid (HN.out.below hb5); replace HRow := hid (HRow.out.below hb5)
      replace HT : Hid (∀ j, j < i → Sn (T j) (T' j) ∧ Rw (wr.alloc (.cells #[.int .i64 z, .bool s, .slice x n c, .slice y m d] 62)) (T' j).x (T' j).n (T' j).c (T' j).f (T' j).y (T' j).m (T' j).d (T' j).g) := fun j hj => ⟨(HT.out j hj).1, (HT.out j hj).2.below hb5⟩
      replace HB := hid (HB.out.trans (hb5.mono HB.out.size))
      clear x0 x1 x2 x3 hb5
      have hsz : w.heap.size ≤ (wr.alloc (.cells #[.int .i64 z, .bool s, .slice x n c, .slice y m d] 62)).heap.size := HB.out.size
      generalize wr.alloc (.cells #[.int .i64 z, .bool s, .slice x n c, .slice y m d] 62) = w5 at *
      have CT : Hid (∀ W, Below w5.heap.size w5 W → Calls Tryz.prog 36 #[.agg #[.bool s, .slice x n c, .slice y m d]] W fun e w' => ∃ z6 c6 z7 c7, e = .returned (.agg #[.bool s, .slice z6 n c6, .slice z7 m c7]) ∧ Below W.heap.size W w' ∧ Hid (Rw w' z6 n c6 f z7 m c7 g)) := fun W hW => qTwin_c (HN.out.below hW) hn10 hm10
      go_region_held3 (fun w' => w'.cell? ⟨wr.heap.size, 0, none⟩ = some (.int .i64 z) ∧ w'.cell? ⟨wr.heap.size, 1, none⟩ = some (.bool s) ∧ w'.cell? ⟨wr.heap.size, 2, none⟩ = some (.slice x n c) ∧ w'.cell? ⟨wr.heap.size, 3, none⟩ = some (.slice y m d))
        (refine ⟨?_, ?_, ?_, ?_⟩ <;> repeat (with_reducible first | assumption | refine kCd ?_ | refine kCa ?_ | refine kCb (by assumption) ?_))
        (first
          | (go_at_call 36; with_reducible refine (CT.out _ (by repeat (with_reducible first | assumption | exact Below.refl _ _ | refine Below.drew ?_ | refine kBa ?_ | refine kBb (by assumption) ?_))).mono ?_; rintro e w6 ⟨z6, c6, z7, c7, rfl, hb6, HQ⟩; have B6 : Below w5.heap.size w5 w6 := (by repeat (with_reducible first | assumption | exact Below.refl _ _ | refine Below.drew ?_ | refine kBa ?_ | refine kBb (by assumption) ?_)); have HRow6 := HRow.out.below B6; have hz6 : w.heap.size ≤ w6.heap.size := Nat.le_trans hsz B6.size; have a06 := kCb B6 a0; have a16 := kCb B6 a1; have a26 := kCb B6 a2; have a36 := kCb B6 a3; have hlt6 := World.block_lt_of_cell? w6 _ a06)
          | (refine step_append_oneW w6 rfl (.tmp 12) (.tmp 19) 60 rfl w.heap.size 62 64 4 (.agg #[.int .i64 0, .bool false, .slice none 0 0, .slice none 0 0]) Tryz.underlying60 Tryz.infoTerm rfl (by decide) nz4 u3 i (tcells (tls i col T')) rfl HRow6 #[.int .i64 z, .bool s, .slice z6 n c6, .slice z7 m c7] rfl rfl (one4 _ _ _ _ _ _ _ _) (not4 _ _ _ _ _ _ _ _) ?p1 ?p2 hz6 ?_; (case p1 => omega); (case p2 => omega); intro g8 cap8 w8 hr8 hk8 hb8 hg8 _; have h88 := hg8 wr.heap.size hlt6 hne; have a08 := (World.cell?_of_block (a := ⟨wr.heap.size, 0, none⟩) h88).trans a06; have a18 := (World.cell?_of_block (a := ⟨wr.heap.size, 1, none⟩) h88).trans a16; have a28 := (World.cell?_of_block (a := ⟨wr.heap.size, 2, none⟩) h88).trans a26; have a38 := (World.cell?_of_block (a := ⟨wr.heap.size, 3, none⟩) h88).trans a36))
      all_goals
        (have HB8 := hid (hb8 w (HB.out.trans (B6.mono HB.out.size)) (Nat.le_refl _))
         have HR8 : Hid (RowG 62 4 w.heap.size w8 (.slice (some ⟨g8, 0, none⟩) (i + 1) cap8) (i + 1) (tcells (tls (i + 1) col (putN T' i ⟨s, z6, n, c6, f, z7, m, c7, g⟩)))) := by
           show RowG _ _ _ _ _ _ _
           rw [tls_put, HZ.out]; exact hr8
         have HT8 : Hid (∀ j, j < i + 1 → Sn (T j) (putN T' i ⟨s, z6, n, c6, f, z7, m, c7, g⟩ j) ∧ Rw w8 (putN T' i ⟨s, z6, n, c6, f, z7, m, c7, g⟩ j).x (putN T' i ⟨s, z6, n, c6, f, z7, m, c7, g⟩ j).n (putN T' i ⟨s, z6, n, c6, f, z7, m, c7, g⟩ j).c (putN T' i ⟨s, z6, n, c6, f, z7, m, c7, g⟩ j).f (putN T' i ⟨s, z6, n, c6, f, z7, m, c7, g⟩ j).y (putN T' i ⟨s, z6, n, c6, f, z7, m, c7, g⟩ j).m (putN T' i ⟨s, z6, n, c6, f, z7, m, c7, g⟩ j).d (putN T' i ⟨s, z6, n, c6, f, z7, m, c7, g⟩ j).g) := fun j hj => by
           by_cases e : j = i
           · subst e
             rw [putN_at, HTi.out]
             exact ⟨⟨rfl, rfl, rfl, rfl, rfl⟩, Rw.kp HQ.out hk8⟩
           · rw [putN_ne e]
             exact ⟨(HT.out j (by omega)).1, Rw.kp ((HT.out j (by omega)).2.below B6) hk8⟩
         clear hr8 hk8 hb8 hg8 h88 a08 a18 a28 a38 a06 a16 a26 a36 hlt6 hne HRow6 B6 hb6 HQ HRow HT HB CT a0 a1 a2 a3 HN hz6
         go_wp2
         go_roundw
         case rel => exact ⟨i + 1, _, by omega, by go_num, HB8.out, HR8.out, HT8.out⟩
         case measure => simp [intOf]; omega)
    · have e1 : i = k := by omega
      have i1 : ¬ (((i : Nat) : Int) < ((k : Nat) : Int)) := by omega
      rw [e1] at HRow HT
      obtain ⟨aw, cw, rfl⟩ := HRow.out.slice
      have hcw : k ≤ cw ∧ cw ≤ 9223372036854775807 := by
        rcases HRow.out.2 with ⟨hv, h0⟩ | ⟨_, _, _, hv, _, _, h5, h6, _⟩
        · cases hv; omega
        · cases hv; unfold maxLen at h6; omega
      clear e1
      go_wp2
      go_ret
      exact ⟨aw, cw, T', rfl, HB.out, hcw, (fun b o s e => (HRow.out.lt b (by rw [e]; rfl)).1), (fun j hj => by obtain ⟨b, hb, h4⟩ := rowg_c4 HRow.out hj; exact ⟨b, 0, hb, h4, (HT.out j hj).2⟩), fun j hj => (HT.out j hj).1⟩
end Go.Proofs.YtbmfcogfgdggkaaGreat
namespace Go.Proofs.YtbmfcogfgdggkaaGreat
open Go.RowKit

/-- What copyTerms answers: the same list elsewhere, in new memory. -/
def TwNew (w w' : World) (e : Ending) (k : Nat) (col : Nat → Int) (T : Nat → Nm) : Prop := ∃ aw cw T', e = .returned (.slice aw k cw) ∧ Below w.heap.size w w' ∧ (k ≤ cw ∧ cw ≤ 9223372036854775807) ∧ (∀ b o s, aw = some ⟨b, o, s⟩ → w.heap.size ≤ b) ∧ Hid (Tl w' aw k col T' ∧ ∀ j, j < k → Sn (T j) (T' j))
/-- A list of limbs that can be read, and whose length fits. -/
def Rk1 (w : World) (z : Option Addr) (n c : Nat) (f : Nat → Int) : Prop := Rd .u64 w z n f ∧ (n ≤ c ∧ c ≤ 9223372036854775807) ∧ (z = none → n = 0 ∧ c = 0)
theorem cloneRk_c {w : World} {x : Option Addr} {n c : Nat} {f : Nat → Int} (h : Rd .u64 w x n f) (hnil : x = none → n = 0 ∧ c = 0) (hn : n ≤ 1048576) :
    Calls Tryz.prog 113 #[.slice x n c] w fun e w' => ∃ z c', e = .returned (.slice z n c') ∧ Below w.heap.size w w' ∧ Hid (Rk1 w' z n c' f) :=
  (rclone_c x n c f w hn h hnil).mono (fun _ _ ⟨z, c', h1, h2, h3⟩ => ⟨z, c', h1, h2, h3.slice.2.2.2.1, ⟨h3.slice.1, h3.slice.2.1⟩, h3.slice.2.2.1⟩)
set_option maxRecDepth 100000 in
set_option maxHeartbeats 4000000 in
theorem rCopy_w {w : World} {sa : Bool} {xa : Option Addr} {na ca : Nat} {fa : Nat → Int} {ya : Option Addr} {ma da : Nat} {ga : Nat → Int} (ha : Rw w xa na ca fa ya ma da ga) (hn : na ≤ 1048576) (hm : ma ≤ 1048576) :
    Calls Tryz.prog 85 #[.agg #[.bool sa, .slice xa na ca, .slice ya ma da]] w fun e w' => ∃ x c y d, e = .returned (.agg #[.bool sa, .slice x na c, .slice y ma d]) ∧ Below w.heap.size w w' ∧ Hid (Rw w' x na c fa y ma d ga) := by
  have h1 := (ha.alloc (.cells #[.bool sa, .slice xa na ca, .slice ya ma da] 24)).alloc (.cells #[.bool false, .slice none 0 0, .slice none 0 0] 24)
  have h3 := ob_new (w.alloc (.cells #[.bool sa, .slice xa na ca, .slice ya ma da] 24)) 24
  rw [size_alloc1] at h3
  have h4 := below_alloc (below_alloc (Below.refl w.heap.size w) (.cells #[.bool sa, .slice xa na ca, .slice ya ma da] 24)) (.cells #[.bool false, .slice none 0 0, .slice none 0 0] 24)
  have h5 := (bx3_at w (.bool sa) (.slice xa na ca) (.slice ya ma da) 24).alloc (.cells #[.bool false, .slice none 0 0, .slice none 0 0] 24)
  clear ha
  go_enter Tryz.func85, Tryz.ntmps85
  go_wp2_with fail
  generalize (w.alloc (.cells #[.bool sa, .slice xa na ca, .slice ya ma da] 24)).alloc (.cells #[.bool false, .slice none 0 0, .slice none 0 0] 24) = w1 at *
  have HA := hid h1; have OB := h3; have HW := hid h4
  obtain ⟨hz, z0, z1, z2, zf⟩ := h3
  obtain ⟨hy, x0, x1, x2⟩ := h5
  clear h1 h4
  have C1 : Hid (∀ W, Below w1.heap.size w1 W → Calls Tryz.prog 113 #[.slice xa na ca] W fun e w' => ∃ z c', e = .returned (.slice z na c') ∧ Below W.heap.size W w' ∧ Hid (Rk1 w' z na c' fa)) := fun W hW => cloneRk_c (HA.out.below hW).rx (HA.out.below hW).nx hn
  have C2 : Hid (∀ W, Below w1.heap.size w1 W → Calls Tryz.prog 113 #[.slice ya ma da] W fun e w' => ∃ z c', e = .returned (.slice z ma c') ∧ Below W.heap.size W w' ∧ Hid (Rk1 w' z ma c' ga)) := fun W hW => cloneRk_c (HA.out.below hW).ry (HA.out.below hW).ny hm
  go_region_held3 (fun w' => w'.cell? ⟨w.heap.size, 0, none⟩ = some (.bool sa) ∧ w'.cell? ⟨w.heap.size, 1, none⟩ = some (.slice xa na ca) ∧ w'.cell? ⟨w.heap.size, 2, none⟩ = some (.slice ya ma da) ∧ (w'.cell? ⟨w.heap.size + 1, 0, none⟩).isSome = true ∧ (w'.cell? ⟨w.heap.size + 1, 1, none⟩).isSome = true ∧ (w'.cell? ⟨w.heap.size + 1, 2, none⟩).isSome = true ∧ w'.frozen? ⟨w.heap.size + 1, 0, none⟩ = false ∧ w'.frozen? ⟨w.heap.size + 1, 1, none⟩ = false ∧ w'.frozen? ⟨w.heap.size + 1, 2, none⟩ = false)
    (refine ⟨?_, ?_, ?_, ?_, ?_, ?_, ?_, ?_, ?_⟩ <;> repeat (with_reducible first | assumption | exact zf _ | exact kI0 z0 | exact kI0 z1 | exact kI0 z2 | exact tf _ | exact kI0 t0 | exact kI0 t1 | exact kI0 t2 | exact uf _ | exact kI0 u0 | exact kI0 u1 | exact kI0 u2 | refine kCd ?_ | refine kId ?_ | refine kFd ?_ | refine kCs (by simp only [ne_eq]; omega) ?_ | refine kIs ?_ | refine kFs ?_ | refine kCb (by assumption) ?_ | refine kIb (by assumption) ?_))
    (first
      | (go_at_call 113; with_reducible refine (C1.out _ (by repeat (with_reducible first | assumption | exact Below.refl _ _ | refine Below.drew ?_ | refine kBa ?_ | refine kBb (by assumption) ?_))).mono ?_; rintro e w5 ⟨zp, cp, rfl, hb5, HP⟩; have TU : Ob w5 (w.heap.size + 1) := (by repeat (with_reducible first | exact OB | exact TU | exact TV | refine Ob.drew ?_ | refine kOb (by assumption) ?_)); obtain ⟨_, t0, t1, t2, tf⟩ := id TU)
      | (go_at_call 113; with_reducible refine (C2.out _ (by repeat (with_reducible first | assumption | exact Below.refl _ _ | refine Below.drew ?_ | refine kBa ?_ | refine kBb (by assumption) ?_))).mono ?_; rintro e w6 ⟨zq, cq, rfl, hb6, HQ⟩; have TV : Ob w6 (w.heap.size + 1) := (by repeat (with_reducible first | exact OB | exact TU | exact TV | refine Ob.drew ?_ | refine kOb (by assumption) ?_)); obtain ⟨_, u0, u1, u2, uf⟩ := id TV))
  have WA := HP.out.1.below hb6 (Nat.le_refl _)
  have hb : Below w1.heap.size w1 w6 := (by repeat (with_reducible first | assumption | exact Below.refl _ _ | refine Below.drew ?_ | refine kBa ?_ | refine kBb (by assumption) ?_))
  go_wp2
  exact bodyPost_ret (v := .agg #[.bool sa, .slice zp na cp, .slice zq ma cq]) (by simp [results, Tryz.results85, go_sem, u0, u1, u2]) rfl ⟨zp, cp, zq, cq, rfl, below_st (HW.out.trans (hb.mono HW.out.size)) (by omega), TV.rd WA, HA.out.lx, HP.out.2.1, HP.out.2.2, TV.rd HQ.out.1, HA.out.ly, HQ.out.2.1, HQ.out.2.2⟩

set_option maxRecDepth 100000 in
set_option maxHeartbeats 4000000 in
theorem copyTerms_c {w : World} {ao : Option Addr} {k cap : Nat} {col : Nat → Int} {T : Nat → Nm} (h : Tl w ao k col T) (hk : k ≤ 10000) (hl : ∀ j, j < k → (T j).n ≤ 1000 ∧ (T j).m ≤ 1000) :
    Calls Tryz.prog 51 #[.slice ao k cap] w fun e w' => TwNew w w' e k col T := by
  have H := hid h
  clear h
  go_enter Tryz.func51, Tryz.ntmps51
  go_wp2_with fail
  go_loopw [3, 8] (fun ov t wr => ∃ (i : Nat) (T' : Nat → Nm), i ≤ k ∧ t = .int .i64 i ∧ Hid (Below w.heap.size w wr) ∧ Hid (RowG 62 4 w.heap.size wr ov i (tcells (tls i col T'))) ∧ Hid (∀ j, j < i → Sn (T j) (T' j) ∧ Rw wr (T' j).x (T' j).n (T' j).c (T' j).f (T' j).y (T' j).m (T' j).d (T' j).g)) (fun _ t _ => k - (intOf t).toNat)
  case atStart => exact ⟨0, T, by omega, rfl, Below.refl _ _, rowG_nil _ _ _ _, fun j hj => by omega⟩
  case round =>
    obtain ⟨i, T', hi, rfl, HB, HRow, HT⟩ := hrel
    by_cases hlt : i < k
    · obtain ⟨b, o, rfl, hc, hn, hn1, hn2⟩ := (H.out.below HB.out) i hlt
      obtain ⟨⟨s, x, n, c, f, y, m, d, g⟩, hTi⟩ : ∃ t, T i = t := ⟨_, rfl⟩
      rw [hTi] at hc hn hn1 hn2
      obtain ⟨z, hz⟩ : ∃ z, col i = z := ⟨_, rfl⟩
      rw [hz] at hc
      obtain ⟨x0, x1, x2, x3⟩ := hc
      replace x0 : wr.cell? ⟨b, o + i * 4, none⟩ = some (.int .i64 z) := x0
      replace x1 : wr.cell? ⟨b, o + i * 4 + 1, none⟩ = some (.bool s) := x1
      replace x2 : wr.cell? ⟨b, o + i * 4 + 2, none⟩ = some (.slice x n c) := x2
      replace x3 : wr.cell? ⟨b, o + i * 4 + 3, none⟩ = some (.slice y m d) := x3
      have i1 : ((i : Nat) : Int) < ((k : Nat) : Int) := by omega
      obtain ⟨hn10, hm10⟩ := hl i hlt
      rw [hTi] at hn10 hm10
      have HN := hid hn; have HZ := hid hz; have HTi := hid hTi
      clear hn hz hTi
      go_upto_region 5 with fail
      have hb5 := below_alloc (Below.refl wr.heap.size wr) (.cells #[.int .i64 z, .bool s, .slice x n c, .slice y m d] 62)
      have a0 : (wr.alloc (.cells #[.int .i64 z, .bool s, .slice x n c, .slice y m d] 62)).cell? ⟨wr.heap.size, 0, none⟩ = some (.int .i64 z) := by simp [go_sem]
      have a1 : (wr.alloc (.cells #[.int .i64 z, .bool s, .slice x n c, .slice y m d] 62)).cell? ⟨wr.heap.size, 1, none⟩ = some (.bool s) := by simp [go_sem]
      have a2 : (wr.alloc (.cells #[.int .i64 z, .bool s, .slice x n c, .slice y m d] 62)).cell? ⟨wr.heap.size, 2, none⟩ = some (.slice x n c) := by simp [go_sem]
      have a3 : (wr.alloc (.cells #[.int .i64 z, .bool s, .slice x n c, .slice y m d] 62)).cell? ⟨wr.heap.size, 3, none⟩ = some (.slice y m d) := by simp [go_sem]
      have hne : u3.ownBlock ≠ some wr.heap.size := fun e => by have := (HRow.out.lt _ e).2; omega
      replace HN := hid (HN.out.below hb5); replace HRow := hid (HRow.out.below hb5)
      replace HT : Hid (∀ j, j < i → Sn (T j) (T' j) ∧ Rw (wr.alloc (.cells #[.int .i64 z, .bool s, .slice x n c, .slice y m d] 62)) (T' j).x (T' j).n (T' j).c (T' j).f (T' j).y (T' j).m (T' j).d (T' j).g) := fun j hj => ⟨(HT.out j hj).1, (HT.out j hj).2.below hb5⟩
      replace HB := hid (HB.out.trans (hb5.mono HB.out.size))
      clear x0 x1 x2 x3 hb5
      have hsz : w.heap.size ≤ (wr.alloc (.cells #[.int .i64 z, .bool s, .slice x n c, .slice y m d] 62)).heap.size := HB.out.size
      generalize wr.alloc (.cells #[.int .i64 z, .bool s, .slice x n c, .slice y m d] 62) = w5 at *
      have CT : Hid (∀ W, Below w5.heap.size w5 W → Calls Tryz.prog 85 #[.agg #[.bool s, .slice x n c, .slice y m d]] W fun e w' => ∃ z6 c6 z7 c7, e = .returned (.agg #[.bool s, .slice z6 n c6, .slice z7 m c7]) ∧ Below W.heap.size W w' ∧ Hid (Rw w' z6 n c6 f z7 m c7 g)) := fun W hW => rCopy_w (HN.out.below hW) (Nat.le_trans hn10 (by decide)) (Nat.le_trans hm10 (by decide))
      go_region_held3 (fun w' => w'.cell? ⟨wr.heap.size, 0, none⟩ = some (.int .i64 z) ∧ w'.cell? ⟨wr.heap.size, 1, none⟩ = some (.bool s) ∧ w'.cell? ⟨wr.heap.size, 2, none⟩ = some (.slice x n c) ∧ w'.cell? ⟨wr.heap.size, 3, none⟩ = some (.slice y m d))
        (refine ⟨?_, ?_, ?_, ?_⟩ <;> repeat (with_reducible first | assumption | refine kCd ?_ | refine kCa ?_ | refine kCb (by assumption) ?_))
        (first
          | (go_at_call 85; with_reducible refine (CT.out _ (by repeat (with_reducible first | assumption | exact Below.refl _ _ | refine Below.drew ?_ | refine kBa ?_ | refine kBb (by assumption) ?_))).mono ?_; rintro e w6 ⟨z6, c6, z7, c7, rfl, hb6, HQ⟩; have B6 : Below w5.heap.size w5 w6 := (by repeat (with_reducible first | assumption | exact Below.refl _ _ | refine Below.drew ?_ | refine kBa ?_ | refine kBb (by assumption) ?_)); have HRow6 := HRow.out.below B6; have hz6 : w.heap.size ≤ w6.heap.size := Nat.le_trans hsz B6.size; have a06 := kCb B6 a0; have a16 := kCb B6 a1; have a26 := kCb B6 a2; have a36 := kCb B6 a3; have hlt6 := World.block_lt_of_cell? w6 _ a06)
          | (refine step_append_one w6 rfl (.tmp 12) (.tmp 19) 60 rfl w.heap.size 62 64 4 (.agg #[.int .i64 0, .bool false, .slice none 0 0, .slice none 0 0]) Tryz.underlying60 Tryz.infoTerm rfl (by decide) nz4 u3 i (tcells (tls i col T')) rfl HRow6 #[.int .i64 z, .bool s, .slice z6 n c6, .slice z7 m c7] rfl rfl (one4 _ _ _ _ _ _ _ _) (not4 _ _ _ _ _ _ _ _) ?p1 (by decide) hz6 ?_; (case p1 => omega); intro g8 cap8 w8 hr8 hk8 hb8 hg8; have h88 := hg8 wr.heap.size hlt6 hne; have a08 := (World.cell?_of_block (a := ⟨wr.heap.size, 0, none⟩) h88).trans a06; have a18 := (World.cell?_of_block (a := ⟨wr.heap.size, 1, none⟩) h88).trans a16; have a28 := (World.cell?_of_block (a := ⟨wr.heap.size, 2, none⟩) h88).trans a26; have a38 := (World.cell?_of_block (a := ⟨wr.heap.size, 3, none⟩) h88).trans a36))
      all_goals
        (have HB8 := hid (hb8 w (HB.out.trans (B6.mono HB.out.size)) (Nat.le_refl _))
         have HR8 : Hid (RowG 62 4 w.heap.size w8 (.slice (some ⟨g8, 0, none⟩) (i + 1) cap8) (i + 1) (tcells (tls (i + 1) col (putN T' i ⟨s, z6, n, c6, f, z7, m, c7, g⟩)))) := by
           show RowG _ _ _ _ _ _ _
           rw [tls_put, HZ.out]; exact hr8
         have HT8 : Hid (∀ j, j < i + 1 → Sn (T j) (putN T' i ⟨s, z6, n, c6, f, z7, m, c7, g⟩ j) ∧ Rw w8 (putN T' i ⟨s, z6, n, c6, f, z7, m, c7, g⟩ j).x (putN T' i ⟨s, z6, n, c6, f, z7, m, c7, g⟩ j).n (putN T' i ⟨s, z6, n, c6, f, z7, m, c7, g⟩ j).c (putN T' i ⟨s, z6, n, c6, f, z7, m, c7, g⟩ j).f (putN T' i ⟨s, z6, n, c6, f, z7, m, c7, g⟩ j).y (putN T' i ⟨s, z6, n, c6, f, z7, m, c7, g⟩ j).m (putN T' i ⟨s, z6, n, c6, f, z7, m, c7, g⟩ j).d (putN T' i ⟨s, z6, n, c6, f, z7, m, c7, g⟩ j).g) := fun j hj => by
           by_cases e : j = i
           · subst e
             rw [putN_at, HTi.out]
             exact ⟨⟨rfl, rfl, rfl, rfl, rfl⟩, Rw.kp HQ.out hk8⟩
           · rw [putN_ne e]
             exact ⟨(HT.out j (by omega)).1, Rw.kp ((HT.out j (by omega)).2.below B6) hk8⟩
         clear hr8 hk8 hb8 hg8 h88 a08 a18 a28 a38 a06 a16 a26 a36 hlt6 hne HRow6 B6 hb6 HQ HRow HT HB CT a0 a1 a2 a3 HN hz6
         go_wp2
         go_roundw
         case rel => exact ⟨i + 1, _, by omega, by go_num, HB8.out, HR8.out, HT8.out⟩
         case measure => simp [intOf]; omega)
    · have e1 : i = k := by omega
      have i1 : ¬ (((i : Nat) : Int) < ((k : Nat) : Int)) := by omega
      rw [e1] at HRow HT
      obtain ⟨aw, cw, rfl⟩ := HRow.out.slice
      have hcw : k ≤ cw ∧ cw ≤ 9223372036854775807 := by
        rcases HRow.out.2 with ⟨hv, h0⟩ | ⟨_, _, _, hv, _, _, h5, h6, _⟩
        · cases hv; omega
        · cases hv; unfold maxLen at h6; omega
      clear e1
      go_wp2
      go_ret
      exact ⟨aw, cw, T', rfl, HB.out, hcw, (fun b o s e => (HRow.out.lt b (by rw [e]; rfl)).1), (fun j hj => by obtain ⟨b, hb, h4⟩ := rowg_c4 HRow.out hj; obtain ⟨⟨_, e2, _, e4, _⟩, h6⟩ := HT.out j hj; exact ⟨b, 0, hb, h4, h6, by rw [e2]; exact Nat.le_trans (hl j hj).1 (by decide), by rw [e4]; exact Nat.le_trans (hl j hj).2 (by decide)⟩), fun j hj => (HT.out j hj).1⟩
end Go.Proofs.YtbmfcogfgdggkaaGreat
namespace Go.Proofs.YtbmfcogfgdggkaaGreat
open Go.RowKit

/-- Of the first p terms of row i those of column j. -/
def ent (col : Nat → Int) (T : Nat → Nm) (j i : Nat) : Nat → List (Int × Nm)
  | 0 => []
  | p + 1 => ent col T j i p ++ (if col p = (j : Int) then [((i : Int), T p)] else [])
/-- Of the first i rows those of column j. -/
def cent (cl : Nat → Nat → Int) (tk : Nat → Nat) (T : Nat → Nat → Nm) (j : Nat) : Nat → List (Int × Nm)
  | 0 => []
  | i + 1 => cent cl tk T j i ++ ent (cl i) (T i) j i (tk i)
theorem ent_len (col : Nat → Int) (T : Nat → Nm) (j i : Nat) : ∀ p, (ent col T j i p).length ≤ p
  | 0 => Nat.le_refl _
  | p + 1 => by
    have := ent_len col T j i p
    unfold ent
    rw [List.length_append]
    split <;> simp <;> omega
theorem cent_len {cl : Nat → Nat → Int} {tk : Nat → Nat} {T : Nat → Nat → Nm} {j K : Nat} : ∀ {i : Nat}, (∀ q, q < i → tk q ≤ K) → (cent cl tk T j i).length ≤ i * K
  | 0, _ => Nat.zero_le _
  | i + 1, h => by
    have h1 := cent_len (cl := cl) (T := T) (j := j) (i := i) (fun q hq => h q (by omega))
    have h2 := ent_len (cl i) (T i) j i (tk i)
    have h3 := h i (by omega)
    unfold cent
    rw [List.length_append, Nat.add_mul]; omega
theorem cent_congr {cl : Nat → Nat → Int} {tk : Nat → Nat} {T T' : Nat → Nat → Nm} {j : Nat} : ∀ {i : Nat}, (∀ q, q < i → T q = T' q) → cent cl tk T j i = cent cl tk T' j i
  | 0, _ => rfl
  | i + 1, h => by
    unfold cent
    rw [cent_congr (fun q hq => h q (by omega)), h i (by omega)]
theorem ent_yes {col : Nat → Int} {T : Nat → Nm} {j i p : Nat} (h : col p = (j : Int)) : ent col T j i (p + 1) = ent col T j i p ++ [((i : Int), T p)] := by simp [ent, h]
theorem ent_no {col : Nat → Int} {T : Nat → Nm} {j i p : Nat} (h : col p ≠ (j : Int)) : ent col T j i (p + 1) = ent col T j i p := by simp [ent, h]
def putT (T : Nat → Nat → Nm) (i : Nat) (t : Nat → Nm) : Nat → Nat → Nm := fun j => if j = i then t else T j
theorem putT_at (T : Nat → Nat → Nm) (i : Nat) (t : Nat → Nm) : putT T i t i = t := by simp [putT]
theorem putT_ne {T : Nat → Nat → Nm} {i j : Nat} {t : Nat → Nm} (h : j ≠ i) : putT T i t j = T j := by simp [putT, h]
def putV (V : Nat → Value) (i : Nat) (t : Value) : Nat → Value := fun j => if j = i then t else V j
theorem putV_at (T : Nat → Value) (i : Nat) (t : Value) : putV T i t i = t := by simp [putV]
theorem putV_ne {T : Nat → Value} {i j : Nat} {t : Value} (h : j ≠ i) : putV T i t j = T j := by simp [putV, h]

/-- A list of ck lists of terms in new memory, each in a block of its own: block g holds them; none of them is one of X. -/
structure Co (base : Nat) (w : World) (g ck : Nat) (V : Nat → Value) (E : Nat → List (Int × Nm)) (X : Nat → Prop) : Prop where
  bl : ∃ cur, w.heap[g]? = some (.cells cur 60 (0, 0)) ∧ cur.size = ck ∧ NoU cur ∧ ∀ j, j < ck → cur[j]? = some (V j)
  ge : base ≤ g
  xg : ¬ X g
  row : ∀ j, j < ck → RowG 62 4 base w (V j) (E j).length (tcells (E j))
  ne : ∀ j, j < ck → (V j).ownBlock ≠ some g
  nx : ∀ j, j < ck → ∀ b, (V j).ownBlock = some b → ¬ X b
  dj : ∀ i j, i < ck → j < ck → i ≠ j → ∀ b, (V i).ownBlock = some b → (V j).ownBlock ≠ some b
theorem Co.lt {base w g ck V E X} (h : Co base w g ck V E X) : g < w.heap.size := by
  obtain ⟨cur, h1, _⟩ := h.bl
  exact (Array.getElem?_eq_some_iff.1 h1).1
theorem Co.below {base w w' g ck V E X} (h : Co base w g ck V E X) (hb : Below w.heap.size w w') : Co base w' g ck V E X := by
  have hlt := h.lt
  obtain ⟨cur, h1, h2⟩ := h.bl
  exact ⟨⟨cur, (hb.block g hlt).trans h1, h2⟩, h.ge, h.xg, fun j hj => (h.row j hj).below hb, h.ne, h.nx, h.dj⟩
theorem Co.cell {base w g ck V E X} (h : Co base w g ck V E X) {j : Nat} (hj : j < ck) : w.cell? ⟨g, j, none⟩ = some (V j) := by
  obtain ⟨cur, h1, _, _, h2⟩ := h.bl
  simp only [World.cell?, h1]
  simpa using h2 j hj
theorem Co.unx {base w g ck V E X} (h : Co base w g ck V E X) (Y : Nat → Prop) (hY : ∀ b, Y b → w.heap.size ≤ b) : Co base w g ck V E Y :=
  ⟨h.bl, h.ge, fun hy => by have := hY g hy; have := h.lt; omega, h.row, h.ne, fun j hj b hb hy => by have := hY b hy; have := ((h.row j hj).lt b hb).2; omega, h.dj⟩
theorem Co.congr {base w g ck V E E' X} (h : Co base w g ck V E X) (he : ∀ j, j < ck → E j = E' j) : Co base w g ck V E' X :=
  ⟨h.bl, h.ge, h.xg, fun j hj => by rw [← he j hj]; exact h.row j hj, h.ne, h.nx, h.dj⟩
/-- One of the lists has grown by append (in w8), and is stored. -/
theorem Co.put {base w w8 g ck V E X} (h : Co base w g ck V E X) {c : Nat} (hc : c < ck) {g8 cap8 en : Nat} {x : Int × Nm} (hen : (E c).length = en) (hX : ∀ b, X b → b < w.heap.size)
    (hr : RowG 62 4 base w8 (.slice (some ⟨g8, 0, none⟩) (en + 1) cap8) (en + 1) (tcells (E c) ++ tcell x.1 x.2))
    (hg : ∀ k, k < w.heap.size → (V c).ownBlock ≠ some k → w8.heap[k]? = w.heap[k]?) (hl : (V c).ownBlock = some g8 ∨ w.heap.size ≤ g8) :
    Co base (w8.setCell ⟨g, c, none⟩ (.slice (some ⟨g8, 0, none⟩) (en + 1) cap8)) g ck (putV V c (.slice (some ⟨g8, 0, none⟩) (en + 1) cap8)) (fun j => if j = c then E c ++ [x] else E j) X := by
  subst hen
  have hgl := h.lt
  have hg8 : g8 ≠ g := fun e => by
    rcases hl with h1 | h1
    · exact h.ne c hc (e ▸ h1)
    · omega
  have hset : ∀ k, k ≠ g → (w8.setCell ⟨g, c, none⟩ (.slice (some ⟨g8, 0, none⟩) ((E c).length + 1) cap8)).heap[k]? = w8.heap[k]? := fun k hk => Below.heap_setCell _ _ _ _ hk
  obtain ⟨cur, h1, h2, h3, h4⟩ := h.bl
  have h8 : w8.heap[g]? = some (.cells cur 60 (0, 0)) := (hg g hgl (h.ne c hc)).trans h1
  refine ⟨⟨cur.setIfInBounds c (.slice (some ⟨g8, 0, none⟩) ((E c).length + 1) cap8), ?_, by simpa using h2, ?_, fun j hj => ?_⟩, h.ge, h.xg, fun j hj => ?_, fun j hj => ?_, fun j hj b hb => ?_, fun i j hi hj hij b hb => ?_⟩
  · simp [World.setCell, Array.getElem?_modify, h8]
  · intro i z
    by_cases e : i = c
    · subst e
      rw [Array.getElem?_setIfInBounds_self]; split <;> simp
    · rw [Array.getElem?_setIfInBounds_ne (Ne.symm e)]; exact h3 i z
  · by_cases e : j = c
    · subst e; rw [putV_at]; simp [h2, hj]
    · rw [putV_ne e, Array.getElem?_setIfInBounds_ne (Ne.symm e)]; exact h4 j hj
  · by_cases e : j = c
    · subst e
      rw [putV_at]
      simp only [if_true, List.length_append, List.length_singleton]
      have : tcells (E j ++ [x]) = tcells (E j) ++ tcell x.1 x.2 := by obtain ⟨a, b⟩ := x; exact tcells_append _ _ _
      rw [this]
      exact hr.of (fun k hk => hset k (fun e => by have : g8 = k := by simpa [Value.ownBlock] using hk
                                                   omega))
    · rw [putV_ne e]
      simp only [e, if_false]
      refine (h.row j hj).of (fun k hk => ?_)
      have hk1 := ((h.row j hj).lt k hk).2
      rw [hset k (fun e2 => h.ne j hj (e2 ▸ hk)), hg k hk1 (fun e2 => h.dj c j hc hj (Ne.symm e) k e2 hk)]
  · by_cases e : j = c
    · subst e; rw [putV_at]; intro e2; exact hg8 (by simpa [Value.ownBlock] using e2)
    · rw [putV_ne e]; exact h.ne j hj
  · by_cases e : j = c
    · subst e
      rw [putV_at] at hb
      have hb' : g8 = b := by simpa [Value.ownBlock] using hb
      intro hx
      rcases hl with h5 | h5
      · exact h.nx j hj b (hb' ▸ h5) hx
      · have := hX b hx; omega
    · rw [putV_ne e] at hb; exact h.nx j hj b hb
  · by_cases e : i = c
    · subst e
      rw [putV_at] at hb
      have hb' : g8 = b := by simpa [Value.ownBlock] using hb
      rw [putV_ne (Ne.symm hij)]
      intro h5
      rcases hl with h6 | h6
      · exact h.dj i j hi hj hij g8 h6 (hb' ▸ h5)
      · have := ((h.row j hj).lt b h5).2; omega
    · rw [putV_ne e] at hb
      by_cases e2 : j = c
      · subst e2
        rw [putV_at]
        intro h5
        have hb' : g8 = b := by simpa [Value.ownBlock] using h5
        rcases hl with h6 | h6
        · exact h.dj i j hi hj hij b hb (hb' ▸ h6)
        · have := ((h.row i hi).lt b hb).2; omega
      · rw [putV_ne e2]; exact h.dj i j hi hj hij b hb
/-- A list of terms elsewhere than what has turned. -/
theorem Tl.of {w w' ao k col T} (h : Tl w ao k col T) (hb : ∀ b o s, ao = some ⟨b, o, s⟩ → w'.heap[b]? = w.heap[b]?) (hk : Kp w w') : Tl w' ao k col T := fun j hj => by
  obtain ⟨b, o, e, ⟨c0, c1, c2, c3⟩, h2, h3⟩ := h j hj
  have := hb b o none e
  exact ⟨b, o, e, ⟨(World.cell?_of_block (a := ⟨b, o + j * 4, none⟩) this).trans c0, (World.cell?_of_block (a := ⟨b, o + j * 4 + 1, none⟩) this).trans c1, (World.cell?_of_block (a := ⟨b, o + j * 4 + 2, none⟩) this).trans c2, (World.cell?_of_block (a := ⟨b, o + j * 4 + 3, none⟩) this).trans c3⟩, h2.kp hk, h3⟩
/-- 'make([][]T, n)'. -/
theorem wpList_make_co {P : Program} (w : World) {ops : Array Oper} {rest : List Oper} {o : Oper} {a : Act} {Q : Exit → Act → World → Prop}
    (hg : o.guard = none) (l c : Operand) (t : TypeId) (hop : o.op = Op.makeSlice t l c)
    (e : TypeId) (bytes : Nat) (h1 : P.underlying t = some (.slice e)) (h2 : (P.info? e).map (fun i => (i.zero, i.size, i.bytes)) = some (some (.slice none 0 0), 1, bytes))
    (kl kc : IntKind) (L C : Int) (n : Nat) (hl : a.eval l = .int kl L) (hc : a.eval c = .int kc C) (hL : L = (n : Int)) (hC : C = (n : Int)) (b2 : bytes * n ≤ 281474976710656) (b3 : n ≤ maxLen)
    (hK : ∀ w', (∃ cur, w'.heap[w.heap.size]? = some (.cells cur e (0, 0)) ∧ cur.size = n ∧ NoU cur ∧ ∀ j, j < n → cur[j]? = some (.slice none 0 0)) → Below w.heap.size w w' → wpList P ops Q rest (a.put o.dst (.slice (some ⟨w.heap.size, 0, none⟩) n n)) w') :
    wpList P ops Q (o :: rest) a w := by
  obtain ⟨i, hi, hz0, hz1, hz2⟩ := info_parts h2
  refine wpList_make_full w hg l c t hop w.heap.size e i _ 1 h1 hi hz0 hz1 kl kc L C n hl hc hL hC (by rw [hz2]; exact b2) b3 (Nat.le_refl _) ?_
  intro w' hown hgr
  refine hK w' ?_ ((Below.refl _ _).grown hgr (Nat.le_refl _) (fun k h => by cases h))
  obtain ⟨h1, h2⟩ := hown
  rcases h2 with ⟨hv, _⟩ | ⟨g, cap, cur, hv, hb, hg, hn, hm2, hs, ht⟩
  · cases hv
  · cases hv
    have hcz : (Value.slice none 0 0).cells = #[Value.slice none 0 0] := rfl
    have hs' : cur.size = n := by omega
    have hall : ∀ j, j < n → cur[j]? = some (.slice none 0 0) := fun j hj => by
      have h3 : cur.toList[j]? = (madeCells (Value.slice none 0 0).cells (n * 1)).toList[j]? := by rw [← ht, List.getElem?_take, if_pos (by omega)]
      have h4 : (madeCells (Value.slice none 0 0).cells (n * 1))[j]? = some (.slice none 0 0) := by simp [madeCells, hcz, hj, Nat.mod_one]
      simpa using h3.trans (by simpa using h4)
    refine ⟨cur, hg, hs', fun j z => ?_, hall⟩
    by_cases hj : j < n
    · rw [hall j hj]; simp
    · rw [Array.getElem?_eq_none (by omega)]; simp
theorem Tryz.infoTs : (Tryz.prog.info? 60).map (fun i => (i.zero, i.size, i.bytes)) = some (some (.slice none 0 0), 1, 24) := by kernel_rfl
theorem co_new {base : Nat} {w : World} {g ck : Nat} (hb : base ≤ g) (h : ∃ cur, w.heap[g]? = some (.cells cur 60 (0, 0)) ∧ cur.size = ck ∧ NoU cur ∧ ∀ j, j < ck → cur[j]? = some (.slice none 0 0)) : Co base w g ck (fun _ => .slice none 0 0) (fun _ => []) (fun _ => False) :=
  ⟨h, hb, fun h => h, fun _ _ => rowG_nil _ _ _ _, (fun _ _ h => nomatch h), (fun _ _ _ h => nomatch h), (fun _ _ _ _ _ _ h => nomatch h)⟩
/-- Terms in form rise: each lies below the last one. -/
theorem tfr_last {col : Nat → Int} {T : Nat → Nm} : ∀ {r i : Nat} {last : Int}, tfr col T r i last = true → ∀ p, i ≤ p → p < i + r → last < col p ∧ col p ≤ col (i + r - 1)
  | 0, i, last, _, p, h1, h2 => by omega
  | r + 1, i, last, h, p, h1, h2 => by
    simp only [tfr, Bool.and_eq_true, decide_eq_true_eq] at h
    obtain ⟨ha, _, _, hb⟩ := h
    cases r with
    | zero =>
      obtain rfl : p = i := by omega
      exact ⟨ha, by simp⟩
    | succ r =>
      have e : i + (r + 1 + 1) - 1 = i + 1 + (r + 1) - 1 := by omega
      have hn := tfr_last hb (i + 1) (by omega) (by omega)
      rw [e]
      by_cases hp : p = i
      · subst hp; exact ⟨ha, by omega⟩
      · have := tfr_last hb p (by omega) (by omega)
        exact ⟨by omega, this.2⟩
theorem alB_at {k : Nat} {R : Nat → Lr} : ∀ {r i : Nat}, alB k R r i = true → ∀ j, i ≤ j → j < i + r → lastB k (R j) = true
  | 0, i, _, j, h1, h2 => by omega
  | r + 1, i, h, j, h1, h2 => by
    simp only [alB, Bool.and_eq_true] at h
    by_cases e : j = i
    · subst e; exact h.1
    · exact alB_at h.2 j (by omega) (by omega)
theorem cols_at {k : Nat} {r : Lr} (h1 : tfB r.tk r.col r.T = true) (h2 : lastB k r = true) : ∀ p, p < r.tk → 0 ≤ r.col p ∧ r.col p < k := fun p hp => by
  have h3 := tfr_last h1 p (by omega) (by omega)
  simp only [lastB, Bool.or_eq_true, decide_eq_true_eq] at h2
  rw [Nat.zero_add] at h3
  rcases h2 with h2 | h2 <;> omega
/-- The numbers of the rows are short. -/
structure MoT (M : Mo) : Prop where
  tk : ∀ i, i < M.rk → (M.R i).tk ≤ 10000
  nm : ∀ i, i < M.rk → ∀ p, p < (M.R i).tk → ((M.R i).T p).n ≤ 1000 ∧ ((M.R i).T p).m ≤ 1000
/-- Columns' answer. -/
def CoAns (w w' : World) (e : Ending) (M : Mo) : Prop :=
  (chkE M ≠ 0 ∧ e = .returned (.tuple #[.slice none 0 0, .int .i64 (chkE M)]) ∧ Below w.heap.size w w') ∨
  (chkE M = 0 ∧ ∃ g T' V, e = .returned (.tuple #[.slice (some ⟨g, 0, none⟩) M.ck M.ck, .int .i64 0]) ∧ Below w.heap.size w w' ∧ Co w.heap.size w' g M.ck V (fun j => cent (fun i => (M.R i).col) (fun i => (M.R i).tk) T' j M.rk) (fun _ => False) ∧
    ∀ i, i < M.rk → ∀ p, p < (M.R i).tk → Sn ((M.R i).T p) (T' i p) ∧ Rw w' (T' i p).x (T' i p).n (T' i p).c (T' i p).f (T' i p).y (T' i p).m (T' i p).d (T' i p).g)

set_option maxRecDepth 100000 in
set_option maxHeartbeats 8000000 in
theorem columns_c {w : World} {M : Mo} (h : MoW w M) (hm : M.ck ≤ 64 → M.rk ≤ 64 → MoT M) : Calls Tryz.prog 17 #[M.val] w fun r w' => CoAns w w' r M := by
  have CC := hid (fun w' (hw : Below w.heap.size w w') => check_w (w := w') (h.below hw))
  obtain ⟨e, he⟩ : ∃ e, chkE M = e := ⟨_, rfl⟩
  rw [he] at CC
  by_cases h0 : e = 0
  case neg =>
    have HA : Hid (∀ w', Below w.heap.size w w' → CoAns w w' (.returned (.tuple #[.slice none 0 0, .int .i64 e])) M) := fun w' hw => .inl ⟨by rw [he]; exact h0, by rw [he], hw⟩
    have hne : (e != 0) = true := by simpa using h0
    clear he h hm
    obtain ⟨⟨s, x, n, c, f, y, m, d, g⟩, ca, ck, cc, C, ra, rk, rc, R⟩ := M
    replace CC : Hid (∀ w', Below w.heap.size w w' → Calls Tryz.prog 14 #[.agg #[.bool s, .slice x n c, .slice y m d, .slice ca ck cc, .slice ra rk rc]] w' fun e' w2 => e' = .returned (.int .i64 e) ∧ Below w'.heap.size w' w2) := CC
    show Calls Tryz.prog 17 #[.agg #[.bool s, .slice x n c, .slice y m d, .slice ca ck cc, .slice ra rk rc]] w _
    go_enter Tryz.func17, Tryz.ntmps17
    go_wp2_with fail
    have HB := hid (below_alloc (Below.refl w.heap.size w) (.cells #[.bool s, .slice x n c, .slice y m d, .slice ca ck cc, .slice ra rk rc] 28))
    refine (CC.out _ HB.out).mono ?_
    rintro r w1 ⟨rfl, hb1⟩
    have HB1 := hid (HB.out.trans (hb1.mono HB.out.size))
    clear hb1 HB CC
    go_wp2
    go_ret2
    exact HA.out _ HB1.out
  subst h0
  obtain ⟨l1, l2, hF, _, _, _, _, hAl⟩ := chkE_ok he
  obtain ⟨ho, hC, hR, hck, hrk⟩ := h l1 l2
  obtain ⟨hmt, hmn⟩ := hm l1 l2
  simp only [moF, Bool.and_eq_true] at hF
  have HCol := hid (show ∀ i, i < M.rk → ∀ p, p < (M.R i).tk → 0 ≤ (M.R i).col p ∧ (M.R i).col p < M.ck from fun i hi => cols_at (rlsB_at hF.2.2 i (by omega) (by omega)).2 (alB_at hAl i (by omega) (by omega)))
  generalize hP : (fun e w' => CoAns w w' e M) = P
  have HA : Hid (∀ w' g T' V, Below w.heap.size w w' → Co w.heap.size w' g M.ck V (fun j => cent (fun i => (M.R i).col) (fun i => (M.R i).tk) T' j M.rk) (fun _ => False) → (∀ i, i < M.rk → ∀ p, p < (M.R i).tk → Sn ((M.R i).T p) (T' i p) ∧ Rw w' (T' i p).x (T' i p).n (T' i p).c (T' i p).f (T' i p).y (T' i p).m (T' i p).d (T' i p).g) → P (.returned (.tuple #[.slice (some ⟨g, 0, none⟩) M.ck M.ck, .int .i64 0])) w') := by
    subst hP; exact fun w' g T' V h1 h2 h3 => .inr ⟨he, g, T', V, rfl, h1, h2, h3⟩
  clear he h hm ho hF hP hAl hC hck hrk
  obtain ⟨⟨s, x, n, c, f, y, m, d, g⟩, ca, ck, cc, C, ra, rk, rc, R⟩ := M
  replace l1 : ck ≤ 64 := l1
  replace l2 : rk ≤ 64 := l2
  have HRL : Hid (Rls w ra rk R) := hR
  replace HCol : Hid (∀ i, i < rk → ∀ p, p < (R i).tk → 0 ≤ (R i).col p ∧ (R i).col p < ck) := HCol
  have HMT : Hid (∀ i, i < rk → (R i).tk ≤ 10000) := hmt
  have HMN : Hid (∀ i, i < rk → ∀ p, p < (R i).tk → ((R i).T p).n ≤ 1000 ∧ ((R i).T p).m ≤ 1000) := hmn
  obtain ⟨cl, hcl⟩ : ∃ z : Nat → Nat → Int, (fun i => (R i).col) = z := ⟨_, rfl⟩
  obtain ⟨tkf, htkf⟩ : ∃ z : Nat → Nat, (fun i => (R i).tk) = z := ⟨_, rfl⟩
  have HCL := hid (show ∀ i, (R i).col = cl i from fun i => by rw [← hcl])
  have HTK := hid (show ∀ i, (R i).tk = tkf i from fun i => by rw [← htkf])
  replace HA : Hid (∀ w' g T' V, Below w.heap.size w w' → Co w.heap.size w' g ck V (fun j => cent cl tkf T' j rk) (fun _ => False) → (∀ i, i < rk → ∀ p, p < (R i).tk → Sn ((R i).T p) (T' i p) ∧ Rw w' (T' i p).x (T' i p).n (T' i p).c (T' i p).f (T' i p).y (T' i p).m (T' i p).d (T' i p).g) → P (.returned (.tuple #[.slice (some ⟨g, 0, none⟩) ck ck, .int .i64 0])) w') := by
    rw [← hcl, ← htkf]; exact HA
  replace CC : Hid (∀ w', Below w.heap.size w w' → Calls Tryz.prog 14 #[.agg #[.bool s, .slice x n c, .slice y m d, .slice ca ck cc, .slice ra rk rc]] w' fun e w2 => e = .returned (.int .i64 0) ∧ Below w'.heap.size w' w2) := CC
  clear hR hmt hmn hcl htkf
  show Calls Tryz.prog 17 #[.agg #[.bool s, .slice x n c, .slice y m d, .slice ca ck cc, .slice ra rk rc]] w _
  go_enter Tryz.func17, Tryz.ntmps17
  go_wp2_with fail
  have HB := hid (below_alloc (Below.refl w.heap.size w) (.cells #[.bool s, .slice x n c, .slice y m d, .slice ca ck cc, .slice ra rk rc] 28))
  refine (CC.out _ HB.out).mono ?_
  rintro r w1 ⟨rfl, hb1⟩
  have k3 := kCb hb1 (a := ⟨w.heap.size, 3, none⟩) (v := .slice ca ck cc) (by simp [go_sem])
  have k4 := kCb hb1 (a := ⟨w.heap.size, 4, none⟩) (v := .slice ra rk rc) (by simp [go_sem])
  have HB1 := hid (HB.out.trans (hb1.mono HB.out.size))
  clear hb1 HB CC
  go_wp2_with (at_make; refine wpList_make_co _ rfl (.tmp 17) (.tmp 17) 42 rfl 60 24 Tryz.underlying42 Tryz.infoTs .i64 .i64 ck ck ck rfl rfl rfl rfl (by omega) (by unfold maxLen; omega) ?_; intro w3 hk3 hb3; have k43 := kCb hb3 k4)
  have hs1 := HB1.out.size
  have HCo := hid (co_new (base := w.heap.size) hs1 hk3)
  obtain ⟨gO, hgO⟩ : ∃ z, w1.heap.size = z := ⟨_, rfl⟩
  rw [hgO] at HCo
  have HB3 := hid (HB1.out.trans (hb3.mono HB1.out.size))
  clear hk3 hb3 k3 HB1 hs1
  rw [hgO]
  clear hgO
  go_wp2_with fail
  go_loopw [22] (fun t wr => ∃ (i : Nat) (T' : Nat → Nat → Nm) (V : Nat → Value), i ≤ rk ∧ t = .int .i64 i ∧ Hid (Below w.heap.size w wr) ∧ Hid (Co w.heap.size wr gO ck V (fun j => cent cl tkf T' j i) (fun _ => False)) ∧ Hid (∀ q, q < i → ∀ p, p < (R q).tk → Sn ((R q).T p) (T' q p) ∧ Rw wr (T' q p).x (T' q p).n (T' q p).c (T' q p).f (T' q p).y (T' q p).m (T' q p).d (T' q p).g)) (fun t _ => rk - (intOf t).toNat)
  case atStart => exact ⟨0, fun _ => (R 0).T, _, by omega, rfl, HB3.out, HCo.out, fun q hq => by omega⟩
  case round =>
    obtain ⟨i, T', V, hi, rfl, HB, HC, HT⟩ := hrel
    clear HCo k43 HB3
    by_cases hlt : i < rk
    · obtain ⟨b, o, rfl, hc, hn⟩ := (HRL.out.below HB.out) i hlt
      have htk := HMT.out i hlt
      have CT := hid (fun w' (hw : Below wr.heap.size wr w') => copyTerms_c (w := w') (cap := (R i).tc) (hn.tl.below hw) htk (HMN.out i hlt))
      unfold TwNew at CT
      have hcol := HCol.out i hlt
      have HTKi := hid (HTK.out i)
      rw [HCL.out i] at CT hcol
      have hlen := fun j => cent_len (cl := cl) (tk := tkf) (T := T') (j := j) (i := i) (K := 10000) (fun q hq => by rw [← HTK.out q]; exact HMT.out q (by omega))
      obtain ⟨⟨z, ⟨i1, ⟨s1, x1, n1, c1, f1, y1, m1, d1, g1⟩⟩, ⟨i2, ⟨s2, x2, n2, c2, f2, y2, m2, d2, g2⟩⟩, ta, tk, tc, tcol, tt⟩, hCi⟩ : ∃ t, R i = t := ⟨_, rfl⟩
      rw [hCi] at hc CT HTKi
      have hTt : (R i).T = tt := by rw [hCi]
      have hTk : (R i).tk = tk := by rw [hCi]
      rw [hTk] at htk hcol
      replace HTKi : Hid (tk = tkf i) := HTKi
      replace CT : Hid (∀ w' (hw : Below wr.heap.size wr w'), Calls Tryz.prog 51 #[.slice ta tk tc] w' fun e w2 => ∃ aw cw Tn, e = .returned (.slice aw tk cw) ∧ Below w'.heap.size w' w2 ∧ (tk ≤ cw ∧ cw ≤ 9223372036854775807) ∧ (∀ b o s, aw = some ⟨b, o, s⟩ → w'.heap.size ≤ b) ∧ Hid (Tl w2 aw tk (cl i) Tn ∧ ∀ j, j < tk → Sn (tt j) (Tn j))) := CT
      have q0 : wr.cell? ⟨b, o + i * 10, none⟩ = some (.string z) := hc 0 _ rfl
      have q1 : wr.cell? ⟨b, o + i * 10 + 1, none⟩ = some (.int .i64 i1) := hc 1 _ rfl
      have q2 : wr.cell? ⟨b, o + i * 10 + 2, none⟩ = some (.bool s1) := hc 2 _ rfl
      have q3 : wr.cell? ⟨b, o + i * 10 + 3, none⟩ = some (.slice x1 n1 c1) := hc 3 _ rfl
      have q4 : wr.cell? ⟨b, o + i * 10 + 4, none⟩ = some (.slice y1 m1 d1) := hc 4 _ rfl
      have q5 : wr.cell? ⟨b, o + i * 10 + 5, none⟩ = some (.int .i64 i2) := hc 5 _ rfl
      have q6 : wr.cell? ⟨b, o + i * 10 + 6, none⟩ = some (.bool s2) := hc 6 _ rfl
      have q7 : wr.cell? ⟨b, o + i * 10 + 7, none⟩ = some (.slice x2 n2 c2) := hc 7 _ rfl
      have q8 : wr.cell? ⟨b, o + i * 10 + 8, none⟩ = some (.slice y2 m2 d2) := hc 8 _ rfl
      have q9 : wr.cell? ⟨b, o + i * 10 + 9, none⟩ = some (.slice ta tk tc) := hc 9 _ rfl
      have HCOL := hid hcol; have HLEN := hid hlen; have HTT := hid hTt; have HTKK := hid hTk
      have i1' : ((i : Nat) : Int) < ((rk : Nat) : Int) := by omega
      clear hCi hc hn hcol hlen hTt hTk
      go_wp2_with fail
      have HB2 := hid (below_alloc (Below.refl wr.heap.size wr) (.cells #[.string z, .int .i64 i1, .bool s1, .slice x1 n1 c1, .slice y1 m1 d1, .int .i64 i2, .bool s2, .slice x2 n2 c2, .slice y2 m2 d2, .slice ta tk tc] 75))
      refine (CT.out _ HB2.out).mono ?_
      rintro r w6 ⟨aw, cw, Tn, rfl, hb2, hcw, hfr, hTl⟩
      have HB3 := hid (HB2.out.trans (hb2.mono HB2.out.size))
      have hsz2 := HB2.out.size
      have HX0 : Hid (Co w.heap.size wr gO ck V (fun j => cent cl tkf T' j i) (fun b => ∃ o s, aw = some ⟨b, o, s⟩)) := HC.out.unx _ (fun b ⟨o, s, h⟩ => Nat.le_trans hsz2 (hfr b o s h))
      have HC6 := hid ((HX0.out.below HB3.out).congr (E' := fun j => cent cl tkf T' j i ++ ent (cl i) Tn j i 0) (fun j hj => by simp [ent]))
      have HT6 : Hid (∀ q, q < i → ∀ p, p < (R q).tk → Sn ((R q).T p) (T' q p) ∧ Rw w6 (T' q p).x (T' q p).n (T' q p).c (T' q p).f (T' q p).y (T' q p).m (T' q p).d (T' q p).g) := fun q hq p hp => ⟨(HT.out q hq p hp).1, (HT.out q hq p hp).2.below HB3.out⟩
      have HB6 := hid (HB.out.trans (HB3.out.mono HB.out.size))
      have HTl6 := hid hTl.out.1; have HSn := hid hTl.out.2
      clear hb2 HB2 HB3 hsz2 hfr hTl HX0 HC HT HB CT q0 q1 q2 q3 q4 q5 q6 q7 q8 q9
      go_wp2_with fail
      go_loopw [31] (fun t wz => ∃ (p : Nat) (V : Nat → Value), p ≤ tk ∧ t = .int .i64 p ∧ Hid (Below w.heap.size w wz) ∧ Hid (Co w.heap.size wz gO ck V (fun j => cent cl tkf T' j i ++ ent (cl i) Tn j i p) (fun b => ∃ o s, aw = some ⟨b, o, s⟩)) ∧ Hid (Tl wz aw tk (cl i) Tn) ∧ Hid (∀ q, q < i → ∀ p, p < (R q).tk → Sn ((R q).T p) (T' q p) ∧ Rw wz (T' q p).x (T' q p).n (T' q p).c (T' q p).f (T' q p).y (T' q p).m (T' q p).d (T' q p).g)) (fun t _ => tk - (intOf t).toNat)
      case atStart => exact ⟨0, _, by omega, rfl, HB6.out, HC6.out, HTl6.out, HT6.out⟩
      case round =>
        obtain ⟨p, V, hp, rfl, HB, HC, HTl, HT⟩ := hrel
        clear HB6 HC6 HTl6 HT6
        by_cases hlp : p < tk
        · obtain ⟨b2, o2, rfl, ⟨x0, x1, x2, x3⟩, hn⟩ := HTl.out p hlp
          obtain ⟨hc0, hc1⟩ := HCOL.out p hlp
          obtain ⟨cz, hcz⟩ : ∃ z : Int, cl i p = z := ⟨_, rfl⟩
          rw [hcz] at x0 hc0 hc1
          obtain ⟨cn, rfl⟩ : ∃ q : Nat, cz = (q : Int) := ⟨cz.toNat, by omega⟩
          have hcn : cn < ck := by omega
          obtain ⟨⟨ts, tx, tn, tc2, tf, ty, tm, td, tg⟩, hTp⟩ : ∃ t, Tn p = t := ⟨_, rfl⟩
          rw [hTp] at x1 x2 x3
          have hlt2 := World.block_lt_of_cell? wr _ x0
          replace x0 : wr.cell? ⟨b2, o2 + p * 4, none⟩ = some (.int .i64 cn) := x0
          replace x1 : wr.cell? ⟨b2, o2 + p * 4 + 1, none⟩ = some (.bool ts) := x1
          replace x2 : wr.cell? ⟨b2, o2 + p * 4 + 2, none⟩ = some (.slice tx tn tc2) := x2
          replace x3 : wr.cell? ⟨b2, o2 + p * 4 + 3, none⟩ = some (.slice ty tm td) := x3
          replace hlt2 : b2 < wr.heap.size := hlt2
          have i2' : ((p : Nat) : Int) < ((tk : Nat) : Int) := by omega
          have HCZ := hid hcz; have HTP := hid hTp
          clear hcz hTp hn hc0 hc1
          go_upto_region 11 with fail
          have hb5 := below_alloc (Below.refl wr.heap.size wr) (.cells #[.int .i64 cn, .bool ts, .slice tx tn tc2, .slice ty tm td] 62)
          have a0 : (wr.alloc (.cells #[.int .i64 cn, .bool ts, .slice tx tn tc2, .slice ty tm td] 62)).cell? ⟨wr.heap.size, 0, none⟩ = some (.int .i64 cn) := by simp [go_sem]
          have a1 : (wr.alloc (.cells #[.int .i64 cn, .bool ts, .slice tx tn tc2, .slice ty tm td] 62)).cell? ⟨wr.heap.size, 1, none⟩ = some (.bool ts) := by simp [go_sem]
          have a2 : (wr.alloc (.cells #[.int .i64 cn, .bool ts, .slice tx tn tc2, .slice ty tm td] 62)).cell? ⟨wr.heap.size, 2, none⟩ = some (.slice tx tn tc2) := by simp [go_sem]
          have a3 : (wr.alloc (.cells #[.int .i64 cn, .bool ts, .slice tx tn tc2, .slice ty tm td] 62)).cell? ⟨wr.heap.size, 3, none⟩ = some (.slice ty tm td) := by simp [go_sem]
          have HC5 := hid (HC.out.below hb5)
          have hcl := HC.out.lt
          have hva : (V cn).ownBlock ≠ some wr.heap.size := fun e => by have := ((HC.out.row cn hcn).lt _ e).2; omega
          have hgo : wr.heap.size ≠ gO := by omega
          have hbx : b2 < (wr.alloc (.cells #[.int .i64 cn, .bool ts, .slice tx tn tc2, .slice ty tm td] 62)).heap.size := by simp; omega
          replace HTl := hid (HTl.out.below hb5)
          replace HT : Hid (∀ q, q < i → ∀ p, p < (R q).tk → Sn ((R q).T p) (T' q p) ∧ Rw (wr.alloc (.cells #[.int .i64 cn, .bool ts, .slice tx tn tc2, .slice ty tm td] 62)) (T' q p).x (T' q p).n (T' q p).c (T' q p).f (T' q p).y (T' q p).m (T' q p).d (T' q p).g) := fun q hq p hp => ⟨(HT.out q hq p hp).1, (HT.out q hq p hp).2.below hb5⟩
          replace HB := hid (HB.out.trans (hb5.mono HB.out.size))
          have hal : wr.heap.size < (wr.alloc (.cells #[.int .i64 cn, .bool ts, .slice tx tn tc2, .slice ty tm td] 62)).heap.size := by simp
          generalize hbk : wr.heap.size = bk at *
          generalize wr.alloc (.cells #[.int .i64 cn, .bool ts, .slice tx tn tc2, .slice ty tm td] 62) = w5 at *
          clear x0 x1 x2 x3 hb5 HC hlt2
          replace HC5 := hid (HC5.out.below (Below.drew (Below.refl _ _)))
          replace HTl := hid (HTl.out.below (Below.drew (Below.refl _ _)))
          obtain ⟨EE, hEE⟩ : ∃ z, cent cl tkf T' cn i ++ ent (cl i) Tn cn i p = z := ⟨_, rfl⟩
          obtain ⟨en, hen⟩ : ∃ z, EE.length = z := ⟨_, rfl⟩
          have hrow := HC5.out.row cn hcn
          rw [hEE, hen] at hrow
          have hel : en ≤ 650000 := by
            have h1 := HLEN.out cn; have h2 := ent_len (cl i) Tn cn i p
            rw [← hen, ← hEE, List.length_append]; omega
          have HEE := hid hEE; have HEN := hid hen; have HROW := hid hrow
          clear hEE hen hrow
          replace HT : Hid (∀ q, q < i → ∀ p, p < (R q).tk → Sn ((R q).T p) (T' q p) ∧ Rw w5.drew (T' q p).x (T' q p).n (T' q p).c (T' q p).f (T' q p).y (T' q p).m (T' q p).d (T' q p).g) := fun q hq p hp => ⟨(HT.out q hq p hp).1, kRwd (HT.out q hq p hp).2⟩
          replace HB := hid (Below.drew HB.out)
          replace a0 : w5.drew.cell? ⟨bk, 0, none⟩ = some (.int .i64 cn) := a0
          replace a1 : w5.drew.cell? ⟨bk, 1, none⟩ = some (.bool ts) := a1
          replace a2 : w5.drew.cell? ⟨bk, 2, none⟩ = some (.slice tx tn tc2) := a2
          replace a3 : w5.drew.cell? ⟨bk, 3, none⟩ = some (.slice ty tm td) := a3
          replace hal : bk < w5.drew.heap.size := hal
          replace hbx : b2 < w5.drew.heap.size := hbx
          have ho : w5.drew.cell? ⟨gO, cn, none⟩ = some (V cn) := HC5.out.cell hcn
          have hof : w5.drew.frozen? ⟨gO, cn, none⟩ = false := by obtain ⟨cur, h1, _⟩ := HC5.out.bl; simp [World.frozen?, h1]
          have hsz5 : w.heap.size ≤ w5.drew.heap.size := HB.out.size
          have ho2 : (w5.drew.alloc (.cells #[.int .i64 i, .bool ts, .slice tx tn tc2, .slice ty tm td] 62)).cell? ⟨gO, cn, none⟩ = some (V cn) := kCa ho
          refine wp_region_held_drew (S := (fun w' => w'.cell? ⟨bk, 0, none⟩ = some (.int .i64 cn) ∧ w'.cell? ⟨bk, 1, none⟩ = some (.bool ts) ∧ w'.cell? ⟨bk, 2, none⟩ = some (.slice tx tn tc2) ∧ w'.cell? ⟨bk, 3, none⟩ = some (.slice ty tm td))) (by kernel_rfl) ?_ (fun hHeld => ?_)
          · (refine ⟨?_, ?_, ?_, ?_⟩ <;> repeat (with_reducible first | assumption | refine kCd ?_))
          generalize hwd : w5.drew = wd at *
          clear hwd
          refine wpAnyH_take (i := 0) (v := ?_) rfl (by kernel_rfl) (by kernel_rfl) (by kernel_rfl) (fun _ _ _ h => h) (Or.inl ⟨by rfl, ?_⟩) (by assumption) ?_
          rotate_left
          (focus (intro w0 hSw; (try dsimp only at hSw); go_simp <;> with_reducible rfl))
          simp only [List.getElem_toArray, List.getElem_cons_zero, Act.put, List.setIfInBounds_toArray, List.set_cons_zero, List.set_cons_succ]
          refine wpAnyH_take (i := 1) (v := ?_) rfl (by kernel_rfl) (by kernel_rfl) (by kernel_rfl) (fun _ _ _ h => h) (Or.inl ⟨by rfl, ?_⟩) (by assumption) ?_
          rotate_left
          (focus (intro w0 hSw; (try dsimp only at hSw); go_simp <;> with_reducible rfl))
          simp only [List.getElem_toArray, List.getElem_cons_succ, List.getElem_cons_zero, Act.put, List.setIfInBounds_toArray, List.set_cons_zero, List.set_cons_succ]
          refine wpAnyH_take (i := 2) (v := ?_) rfl (by kernel_rfl) (by kernel_rfl) (by kernel_rfl) (fun _ _ _ h => h) (Or.inl ⟨by rfl, ?_⟩) (by assumption) ?_
          rotate_left
          (focus (intro w0 hSw; (try dsimp only at hSw); go_simp <;> with_reducible rfl))
          simp only [List.getElem_toArray, List.getElem_cons_succ, List.getElem_cons_zero, Act.put, List.setIfInBounds_toArray, List.set_cons_zero, List.set_cons_succ]
          refine wpAnyH_take (i := 3) (v := ?_) rfl (by kernel_rfl) (by kernel_rfl) (by kernel_rfl) (fun _ _ _ h => h) (Or.inl ⟨by rfl, ?_⟩) (by assumption) ?_
          rotate_left
          (focus (intro w0 hSw; (try dsimp only at hSw); go_simp <;> with_reducible rfl))
          simp only [List.getElem_toArray, List.getElem_cons_succ, List.getElem_cons_zero, Act.put, List.setIfInBounds_toArray, List.set_cons_zero, List.set_cons_succ]
          refine wpAnyH_take (i := 4) (v := ?_) rfl (by kernel_rfl) (by kernel_rfl) (by kernel_rfl) (fun _ _ _ h => h) (Or.inl ⟨by rfl, ?_⟩) (by assumption) ?_
          rotate_left
          (focus (intro w0 hSw; (try dsimp only at hSw); go_simp <;> with_reducible rfl))
          simp only [List.getElem_toArray, List.getElem_cons_succ, List.getElem_cons_zero, Act.put, List.setIfInBounds_toArray, List.set_cons_zero, List.set_cons_succ]
          refine wpAnyH_take (i := 5) (v := ?_) rfl (by kernel_rfl) (by kernel_rfl) (by kernel_rfl) (fun _ _ _ h => h) (Or.inl ⟨by rfl, ?_⟩) (by assumption) ?_
          rotate_left
          (focus (intro w0 hSw; (try dsimp only at hSw); go_simp <;> with_reducible rfl))
          simp only [List.getElem_toArray, List.getElem_cons_succ, List.getElem_cons_zero, Act.put, List.setIfInBounds_toArray, List.set_cons_zero, List.set_cons_succ]
          refine wpAnyH_take (i := 6) (v := ?_) rfl (by kernel_rfl) (by kernel_rfl) (by kernel_rfl) (fun _ _ _ h => h) (Or.inl ⟨by rfl, ?_⟩) (by assumption) ?_
          rotate_left
          (focus (intro w0 hSw; (try dsimp only at hSw); go_simp <;> with_reducible rfl))
          simp only [List.getElem_toArray, List.getElem_cons_succ, List.getElem_cons_zero, Act.put, List.setIfInBounds_toArray, List.set_cons_zero, List.set_cons_succ]
          refine wpAnyH_take (i := 8) (v := ?_) rfl (by kernel_rfl) (by kernel_rfl) (by kernel_rfl) (fun _ _ _ h => h) (Or.inl ⟨by rfl, ?_⟩) (by assumption) ?_
          rotate_left
          (focus (intro w0 hSw; (try dsimp only at hSw); go_simp <;> with_reducible rfl))
          simp only [List.getElem_toArray, List.getElem_cons_succ, List.getElem_cons_zero, Act.put, List.setIfInBounds_toArray, List.set_cons_zero, List.set_cons_succ]
          refine wpAnyH_take (i := 9) (v := ?_) rfl (by kernel_rfl) (by kernel_rfl) (by kernel_rfl) (fun _ _ _ h => h) (Or.inl ⟨by rfl, ?_⟩) (by assumption) ?_
          rotate_left
          (focus (intro w0 hSw; (try dsimp only at hSw); go_simp <;> with_reducible rfl))
          simp only [List.getElem_toArray, List.getElem_cons_succ, List.getElem_cons_zero, Act.put, List.setIfInBounds_toArray, List.set_cons_zero, List.set_cons_succ]
          refine wpAnyH_take (i := 10) (v := ?_) rfl (by kernel_rfl) (by kernel_rfl) (by kernel_rfl) (fun _ _ _ h => h) (Or.inl ⟨by rfl, ?_⟩) (by assumption) ?_
          rotate_left
          (focus (intro w0 hSw; (try dsimp only at hSw); go_simp <;> with_reducible rfl))
          simp only [List.getElem_toArray, List.getElem_cons_succ, List.getElem_cons_zero, Act.put, List.setIfInBounds_toArray, List.set_cons_zero, List.set_cons_succ]
          refine wpAnyH_take (i := 11) (v := ?_) rfl (by kernel_rfl) (by kernel_rfl) (by kernel_rfl) (fun _ _ _ h => h) (Or.inl ⟨by rfl, ?_⟩) (by assumption) ?_
          rotate_left
          (focus (intro w0 hSw; (try dsimp only at hSw); go_simp <;> with_reducible rfl))
          simp only [List.getElem_toArray, List.getElem_cons_succ, List.getElem_cons_zero, Act.put, List.setIfInBounds_toArray, List.set_cons_zero, List.set_cons_succ]
          refine wpAnyH_ready (rs := [7, 12]) (by kernel_rfl) (by simp) ?_
          refine AllReadyH.cons (o := _) rfl (fun K hK => ?_) ?_
          · go_simp
            refine hK.out _ _ ?_ (fun hH6 => ?_)
            · ((try dsimp only); (refine ⟨?_, ?_, ?_, ?_⟩ <;> repeat (with_reducible first | assumption | assumption)))
            clear hK K
            try simp only [Act.put, List.setIfInBounds_toArray, List.set_cons_zero, List.set_cons_succ]
            refine wpAnyH_ready (rs := [12]) (by kernel_rfl) (by simp) ?_
            refine AllReadyH.cons (o := _) rfl (fun K hK => ?_) ?_
            rotate_left
            exact AllReadyH.nil
            go_simp
            refine hK.out _ _ ?_ (fun hH7 => ?_)
            · ((try dsimp only); (refine ⟨?_, ?_, ?_, ?_⟩ <;> repeat (with_reducible first | assumption | refine kCd ?_ | refine kCa ?_)))
            clear hK K
            try simp only [Act.put, List.setIfInBounds_toArray, List.set_cons_zero, List.set_cons_succ]
            refine wpAnyH_ready (rs := [13]) (by kernel_rfl) (by simp) ?_
            refine AllReadyH.cons (o := _) rfl (fun K hK => ?_) ?_
            rotate_left
            exact AllReadyH.nil
            refine step_append_oneW wd rfl (.tmp 42) (.tmp 47) 60 rfl w.heap.size 62 64 4 (.agg #[.int .i64 0, .bool false, .slice none 0 0, .slice none 0 0]) Tryz.underlying60 Tryz.infoTerm rfl (by decide) nz4 (V cn) en (tcells EE) rfl HROW.out #[.int .i64 i, .bool ts, .slice tx tn tc2, .slice ty tm td] rfl rfl (one4 _ _ _ _ _ _ _ _) (not4 _ _ _ _ _ _ _ _) ?p1 ?p2 hsz5 ?_
            case p1 => omega
            case p2 => omega
            intro g8 cap8 w8 hr8 hk8 hb8 hg8 hl8
            have hB8 := hg8 bk hal hva
            have e0 := (World.cell?_of_block (a := ⟨bk, 0, none⟩) hB8).trans a0; have e1 := (World.cell?_of_block (a := ⟨bk, 1, none⟩) hB8).trans a1; have e2 := (World.cell?_of_block (a := ⟨bk, 2, none⟩) hB8).trans a2; have e3 := (World.cell?_of_block (a := ⟨bk, 3, none⟩) hB8).trans a3
            have hO8 := hg8 gO HC5.out.lt (HC5.out.ne cn hcn)
            have f0 := (World.cell?_of_block (a := ⟨gO, cn, none⟩) hO8).trans ho
            have ff : w8.frozen? ⟨gO, cn, none⟩ = false := by simp only [World.frozen?, hO8]; simpa only [World.frozen?] using hof
            refine hK.out _ _ ?_ (fun hH8 => ?_)
            · exact ⟨e0, e1, e2, e3⟩
            clear hK K
            try simp only [Act.put, List.setIfInBounds_toArray]
            refine wpAnyH_take (i := 14) (v := ?_) rfl (by kernel_rfl) (by kernel_rfl) (by kernel_rfl) (fun _ _ _ h => h) (Or.inl ⟨by rfl, ?_⟩) (by assumption) ?_
            rotate_left
            (focus (intro w0 hSw; (try dsimp only at hSw); go_simp <;> with_reducible rfl))
            simp only [List.getElem_toArray, List.getElem_cons_succ, List.getElem_cons_zero, Act.put, List.setIfInBounds_toArray, List.set_cons_zero, List.set_cons_succ]
            refine wpAnyH_ready (rs := [15]) (by kernel_rfl) (by simp) ?_
            refine AllReadyH.cons (o := _) rfl (fun K hK => ?_) ?_
            rotate_left
            exact AllReadyH.nil
            go_simp
            refine hK.out _ _ ?_ (fun hH9 => ?_)
            · ((try dsimp only); (refine ⟨?_, ?_, ?_, ?_⟩ <;> repeat (with_reducible first | assumption | refine kCs (by simp only [ne_eq]; omega) ?_)))
            clear hK K
            try simp only [Act.put]
            refine wpAnyH_done (by kernel_rfl) ?_ _
            have HB9 := hid (below_turned (hb8 w HB.out (Nat.le_refl _)) (Nat.le_trans hsz5 hk8.size) ((Turned.refl w.heap.size (gO + 1) w8).set (x := ⟨gO, cn, none⟩) HC5.out.ge (by simp) (.slice (some ⟨g8, 0, none⟩) (en + 1) cap8)) (Nat.le_refl _))
            have HC9 := hid ((HC5.out.put hcn (en := en) (cap8 := cap8) (x := ((i : Int), ⟨ts, tx, tn, tc2, tf, ty, tm, td, tg⟩)) (by rw [HEE.out]; exact HEN.out) (fun b' h => by obtain ⟨_, _, h⟩ := h; cases h; exact hbx) (by rw [HEE.out]; exact hr8) hg8 hl8).congr (E' := fun j => cent cl tkf T' j i ++ ent (cl i) Tn j i (p + 1)) (fun j hj => by
              by_cases e : j = cn
              · subst e; simp only [if_true]; rw [ent_yes HCZ.out, HTP.out, List.append_assoc]
              · simp only [e, if_false]; rw [ent_no (fun h => e (by have := HCZ.out.symm.trans h; omega))]))
            have hkp : Kp wd (w8.setCell ⟨gO, cn, none⟩ (.slice (some ⟨g8, 0, none⟩) (en + 1) cap8)) := by
              obtain ⟨cur, h1, _, h2, _⟩ := HC5.out.bl
              exact hk8.set (x := ⟨gO, cn, none⟩) (hO8.trans h1) h2 _
            have HTl9 := hid (HTl.out.of (w' := w8.setCell ⟨gO, cn, none⟩ (.slice (some ⟨g8, 0, none⟩) (en + 1) cap8)) (fun b' o' s' h => by
              cases h
              rw [Below.heap_setCell _ _ _ _ (fun e => HC5.out.xg ⟨_, _, by rw [e]⟩)]
              exact hg8 b2 hbx (fun e => HC5.out.nx cn hcn b2 e ⟨_, _, rfl⟩)) hkp)
            have HT9 : Hid (∀ q, q < i → ∀ p, p < (R q).tk → Sn ((R q).T p) (T' q p) ∧ Rw (w8.setCell ⟨gO, cn, none⟩ (.slice (some ⟨g8, 0, none⟩) (en + 1) cap8)) (T' q p).x (T' q p).n (T' q p).c (T' q p).f (T' q p).y (T' q p).m (T' q p).d (T' q p).g) := fun q hq p hp => ⟨(HT.out q hq p hp).1, (HT.out q hq p hp).2.kp hkp⟩
            clear hr8 hk8 hb8 hg8 hl8 hB8 e0 e1 e2 e3 hO8 f0 ff hH8 hH9 hkp HC5 HTl HT HB HROW ho ho2 hof a0 a1 a2 a3
            go_wp2
            go_roundw
            case rel => exact ⟨p + 1, _, by omega, by go_num, HB9.out, HC9.out, HTl9.out, HT9.out⟩
            case measure => simp [intOf]; omega
          refine AllReadyH.cons (o := _) rfl (fun K hK => ?_) ?_
          · go_simp
            refine hK.out _ _ ?_ (fun hH6 => ?_)
            · ((try dsimp only); (refine ⟨?_, ?_, ?_, ?_⟩ <;> repeat (with_reducible first | assumption | refine kCd ?_ | refine kCa ?_)))
            clear hK K
            try simp only [Act.put, List.setIfInBounds_toArray, List.set_cons_zero, List.set_cons_succ]
            refine wpAnyH_ready (rs := [7]) (by kernel_rfl) (by simp) ?_
            refine AllReadyH.cons (o := _) rfl (fun K hK => ?_) ?_
            rotate_left
            exact AllReadyH.nil
            go_simp
            refine hK.out _ _ ?_ (fun hH7 => ?_)
            · ((try dsimp only); (refine ⟨?_, ?_, ?_, ?_⟩ <;> repeat (with_reducible first | assumption | refine kCd ?_ | refine kCa ?_)))
            clear hK K
            try simp only [Act.put, List.setIfInBounds_toArray, List.set_cons_zero, List.set_cons_succ]
            refine wpAnyH_ready (rs := [13]) (by kernel_rfl) (by simp) ?_
            refine AllReadyH.cons (o := _) rfl (fun K hK => ?_) ?_
            rotate_left
            exact AllReadyH.nil
            refine step_append_oneW wd rfl (.tmp 42) (.tmp 47) 60 rfl w.heap.size 62 64 4 (.agg #[.int .i64 0, .bool false, .slice none 0 0, .slice none 0 0]) Tryz.underlying60 Tryz.infoTerm rfl (by decide) nz4 (V cn) en (tcells EE) rfl HROW.out #[.int .i64 i, .bool ts, .slice tx tn tc2, .slice ty tm td] rfl rfl (one4 _ _ _ _ _ _ _ _) (not4 _ _ _ _ _ _ _ _) ?p1 ?p2 hsz5 ?_
            case p1 => omega
            case p2 => omega
            intro g8 cap8 w8 hr8 hk8 hb8 hg8 hl8
            have hB8 := hg8 bk hal hva
            have e0 := (World.cell?_of_block (a := ⟨bk, 0, none⟩) hB8).trans a0; have e1 := (World.cell?_of_block (a := ⟨bk, 1, none⟩) hB8).trans a1; have e2 := (World.cell?_of_block (a := ⟨bk, 2, none⟩) hB8).trans a2; have e3 := (World.cell?_of_block (a := ⟨bk, 3, none⟩) hB8).trans a3
            have hO8 := hg8 gO HC5.out.lt (HC5.out.ne cn hcn)
            have f0 := (World.cell?_of_block (a := ⟨gO, cn, none⟩) hO8).trans ho
            have ff : w8.frozen? ⟨gO, cn, none⟩ = false := by simp only [World.frozen?, hO8]; simpa only [World.frozen?] using hof
            refine hK.out _ _ ?_ (fun hH8 => ?_)
            · exact ⟨e0, e1, e2, e3⟩
            clear hK K
            try simp only [Act.put, List.setIfInBounds_toArray]
            refine wpAnyH_take (i := 14) (v := ?_) rfl (by kernel_rfl) (by kernel_rfl) (by kernel_rfl) (fun _ _ _ h => h) (Or.inl ⟨by rfl, ?_⟩) (by assumption) ?_
            rotate_left
            (focus (intro w0 hSw; (try dsimp only at hSw); go_simp <;> with_reducible rfl))
            simp only [List.getElem_toArray, List.getElem_cons_succ, List.getElem_cons_zero, Act.put, List.setIfInBounds_toArray, List.set_cons_zero, List.set_cons_succ]
            refine wpAnyH_ready (rs := [15]) (by kernel_rfl) (by simp) ?_
            refine AllReadyH.cons (o := _) rfl (fun K hK => ?_) ?_
            rotate_left
            exact AllReadyH.nil
            go_simp
            refine hK.out _ _ ?_ (fun hH9 => ?_)
            · ((try dsimp only); (refine ⟨?_, ?_, ?_, ?_⟩ <;> repeat (with_reducible first | assumption | refine kCs (by simp only [ne_eq]; omega) ?_)))
            clear hK K
            try simp only [Act.put]
            refine wpAnyH_done (by kernel_rfl) ?_ _
            have HB9 := hid (below_turned (hb8 w HB.out (Nat.le_refl _)) (Nat.le_trans hsz5 hk8.size) ((Turned.refl w.heap.size (gO + 1) w8).set (x := ⟨gO, cn, none⟩) HC5.out.ge (by simp) (.slice (some ⟨g8, 0, none⟩) (en + 1) cap8)) (Nat.le_refl _))
            have HC9 := hid ((HC5.out.put hcn (en := en) (cap8 := cap8) (x := ((i : Int), ⟨ts, tx, tn, tc2, tf, ty, tm, td, tg⟩)) (by rw [HEE.out]; exact HEN.out) (fun b' h => by obtain ⟨_, _, h⟩ := h; cases h; exact hbx) (by rw [HEE.out]; exact hr8) hg8 hl8).congr (E' := fun j => cent cl tkf T' j i ++ ent (cl i) Tn j i (p + 1)) (fun j hj => by
              by_cases e : j = cn
              · subst e; simp only [if_true]; rw [ent_yes HCZ.out, HTP.out, List.append_assoc]
              · simp only [e, if_false]; rw [ent_no (fun h => e (by have := HCZ.out.symm.trans h; omega))]))
            have hkp : Kp wd (w8.setCell ⟨gO, cn, none⟩ (.slice (some ⟨g8, 0, none⟩) (en + 1) cap8)) := by
              obtain ⟨cur, h1, _, h2, _⟩ := HC5.out.bl
              exact hk8.set (x := ⟨gO, cn, none⟩) (hO8.trans h1) h2 _
            have HTl9 := hid (HTl.out.of (w' := w8.setCell ⟨gO, cn, none⟩ (.slice (some ⟨g8, 0, none⟩) (en + 1) cap8)) (fun b' o' s' h => by
              cases h
              rw [Below.heap_setCell _ _ _ _ (fun e => HC5.out.xg ⟨_, _, by rw [e]⟩)]
              exact hg8 b2 hbx (fun e => HC5.out.nx cn hcn b2 e ⟨_, _, rfl⟩)) hkp)
            have HT9 : Hid (∀ q, q < i → ∀ p, p < (R q).tk → Sn ((R q).T p) (T' q p) ∧ Rw (w8.setCell ⟨gO, cn, none⟩ (.slice (some ⟨g8, 0, none⟩) (en + 1) cap8)) (T' q p).x (T' q p).n (T' q p).c (T' q p).f (T' q p).y (T' q p).m (T' q p).d (T' q p).g) := fun q hq p hp => ⟨(HT.out q hq p hp).1, (HT.out q hq p hp).2.kp hkp⟩
            clear hr8 hk8 hb8 hg8 hl8 hB8 e0 e1 e2 e3 hO8 f0 ff hH8 hH9 hkp HC5 HTl HT HB HROW ho ho2 hof a0 a1 a2 a3
            go_wp2
            go_roundw
            case rel => exact ⟨p + 1, _, by omega, by go_num, HB9.out, HC9.out, HTl9.out, HT9.out⟩
            case measure => simp [intOf]; omega
          exact AllReadyH.nil
        · have e1 : p = tk := by omega
          have i2' : ¬ (((p : Nat) : Int) < ((tk : Nat) : Int)) := by omega
          rw [e1] at HC
          have HC7 : Hid (Co w.heap.size wr gO ck V (fun j => cent cl tkf (putT T' i Tn) j (i + 1)) (fun _ => False)) :=
            (HC.out.congr (fun j hj => by show _ = cent cl tkf (putT T' i Tn) j i ++ ent (cl i) (putT T' i Tn i) j i (tkf i); rw [putT_at, ← HTKi.out, cent_congr (T' := putT T' i Tn) (fun q hq => (putT_ne (by omega)).symm)])).unx _ (fun b h => h.elim)
          have HT7 : Hid (∀ q, q < i + 1 → ∀ p, p < (R q).tk → Sn ((R q).T p) (putT T' i Tn q p) ∧ Rw wr (putT T' i Tn q p).x (putT T' i Tn q p).n (putT T' i Tn q p).c (putT T' i Tn q p).f (putT T' i Tn q p).y (putT T' i Tn q p).m (putT T' i Tn q p).d (putT T' i Tn q p).g) := fun q hq p hp => by
            by_cases e : q = i
            · subst e
              rw [putT_at, HTT.out]
              rw [HTKK.out] at hp
              obtain ⟨_, _, _, _, h5, _⟩ := HTl.out p hp
              exact ⟨HSn.out p hp, h5⟩
            · rw [putT_ne e]; exact HT.out q (by omega) p hp
          clear HC HT HTl e1
          go_wp2
          go_roundw
          case rel => exact ⟨i + 1, _, _, by omega, by go_num, HB.out, HC7.out, HT7.out⟩
          case measure => simp [intOf]; omega
    · have e1 : i = rk := by omega
      have i2' : ¬ (((i : Nat) : Int) < ((rk : Nat) : Int)) := by omega
      rw [e1] at HC HT
      clear e1
      go_wp2
      exact HA.out _ _ _ _ HB.out HC.out HT.out
end Go.Proofs.YtbmfcogfgdggkaaGreat

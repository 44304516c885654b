/-
  Walks of package nat's greatest common divisor: findSteps.
-/
import Derived.Test.YtjjbmioicliipabDoorG0
import Derived.Test.YtjjbmioicliipabDoorM1
import Derived.BigRegion
namespace Go.Proofs.YtjjbmioicliipabDoor
open Go.RowKit

/-- Block g holds the five fields of steps. -/
def SB (w : World) (g : Nat) (a0 b0 a1 b1 : Int) (odd : Bool) : Prop := w.heap[g]? = some (.cells #[.int .u64 a0, .int .u64 b0, .int .u64 a1, .int .u64 b1, .bool odd] 79 (0, 0))
theorem SB.cells {w g a0 b0 a1 b1 odd} (h : SB w g a0 b0 a1 b1 odd) : w.cell? ⟨g, 0, none⟩ = some (.int .u64 a0) ∧ w.cell? ⟨g, 1, none⟩ = some (.int .u64 b0) ∧ w.cell? ⟨g, 2, none⟩ = some (.int .u64 a1) ∧ w.cell? ⟨g, 3, none⟩ = some (.int .u64 b1) ∧ w.cell? ⟨g, 4, none⟩ = some (.bool odd) := by
  unfold SB at h
  simp [World.cell?, h]
theorem SB.frozen {w g a0 b0 a1 b1 odd} (h : SB w g a0 b0 a1 b1 odd) (j : Nat) : w.frozen? ⟨g, j, none⟩ = false := by
  unfold SB at h
  simp [World.frozen?, h]
theorem SB.lt {w g a0 b0 a1 b1 odd} (h : SB w g a0 b0 a1 b1 odd) : g < w.heap.size := (Array.getElem?_eq_some_iff.1 h).1
theorem SB.below {w w' g a0 b0 a1 b1 odd} (h : SB w g a0 b0 a1 b1 odd) (hb : Below w.heap.size w w') : SB w' g a0 b0 a1 b1 odd := (hb.block g h.lt).trans h

theorem SB.set5 {w g a0 b0 a1 b1 odd} (h : SB w g a0 b0 a1 b1 odd) (c0 d0 c1 d1 : Int) (o : Bool) : SB (((((w.setCell ⟨g, 0, none⟩ (.int .u64 c0)).setCell ⟨g, 1, none⟩ (.int .u64 d0)).setCell ⟨g, 2, none⟩ (.int .u64 c1)).setCell ⟨g, 3, none⟩ (.int .u64 d1)).setCell ⟨g, 4, none⟩ (.bool o)) g c0 d0 c1 d1 o := by
  unfold SB at h ⊢
  simp [World.setCell, Array.getElem?_modify, h]
theorem only_set5 (w : World) (g : Nat) (u0 u1 u2 u3 u4 : Value) : Only g w (((((w.setCell ⟨g, 0, none⟩ u0).setCell ⟨g, 1, none⟩ u1).setCell ⟨g, 2, none⟩ u2).setCell ⟨g, 3, none⟩ u3).setCell ⟨g, 4, none⟩ u4) :=
  (((((Only.refl _ _).setCell _ _ _).setCell _ _ _).setCell _ _ _).setCell _ _ _).setCell _ _ _
/-- What findSteps answers. -/
def FsAns (w w' : World) (e : Ending) (x y : Int) : Prop := Below w.heap.size w w' ∧ ∃ a0 b0 a1 b1 odd a b, e = .returned (.agg #[.int .u64 a0, .int .u64 b0, .int .u64 a1, .int .u64 b1, .bool odd]) ∧ Lh odd a b a0 b0 a1 b1 x y ∧ b0 ≤ x ∧ a0 ≤ x ∧ a1 ≤ x ∧ b1 ≤ x

set_option maxRecDepth 100000 in
set_option maxHeartbeats 4000000 in
theorem findSteps_c (x y : Int) (w : World) (y0 : 0 ≤ y) (hyx : y ≤ x) (x0 : 1 ≤ x) (x1 : x < 18446744073709551616) :
    Calls Tryd.prog 62 #[.int .u64 x, .int .u64 y] w fun e w' => FsAns w w' e x y := by
  go_enter Tryd.func62, Tryd.ntmps62
  go_wp2
  go_loopw [0, 1] (fun c d wr => ∃ (a b a0 b0 a1 b1 : Int) (odd : Bool), c = .int .u64 a ∧ d = .int .u64 b ∧ 0 ≤ a ∧ a ≤ x ∧ 0 ≤ b ∧ b ≤ x ∧ Below w.heap.size w wr ∧ Hid (SB wr w.heap.size 0 0 0 0 false) ∧ Hid (SB wr (w.heap.size + 1) a0 b0 a1 b1 odd) ∧ Hid (Lh odd a b a0 b0 a1 b1 x y) ∧ Hid (b0 ≤ x ∧ a0 ≤ x ∧ a1 ≤ x ∧ b1 ≤ x)) (fun _ d _ => (intOf d).toNat)
  case atStart =>
    refine ⟨x, y, 1, 0, 0, 1, false, rfl, rfl, by omega, by omega, by omega, by omega, ((Below.refl _ _).alloc (Nat.le_refl _) _).alloc (by simp) _, ?_, ?_, lh_start (by omega) y0, ?_⟩
    · exact Below.heap_alloc _ _ _ (by simp) |>.trans (heap_alloc_new w _)
    · show _ = _
      have := heap_alloc_new (w.alloc (.cells #[.int .u64 0, .int .u64 0, .int .u64 0, .int .u64 0, .bool false] 79)) (.cells #[.int .u64 1, .int .u64 0, .int .u64 0, .int .u64 1, .bool false] 79)
      simpa using this
    · show _ ∧ _ ∧ _ ∧ _
      omega
  case round =>
    obtain ⟨a, b, a0, b0, a1, b1, odd, rfl, rfl, ha0, hax, hb0, hbx, hbel, HG, HS, HL, HX⟩ := hrel
    obtain ⟨s0, s1, s2, s3, s4⟩ := HS.out.cells
    obtain ⟨r0, r1, r2, r3, r4⟩ := HG.out.cells
    have fz := HS.out.frozen
    have fr := HG.out.frozen
    have alS : ∀ o, SB (wr.alloc o) (w.heap.size + 1) a0 b0 a1 b1 odd := fun o => HS.out.below ((Below.refl _ _).alloc (Nat.le_refl _) o)
    have alG : ∀ o, SB (wr.alloc o) w.heap.size 0 0 0 0 false := fun o => HG.out.below ((Below.refl _ _).alloc (Nat.le_refl _) o)
    have sa0 := fun o => (alS o).cells.1
    have sa1 := fun o => (alS o).cells.2.1
    have sa2 := fun o => (alS o).cells.2.2.1
    have sa3 := fun o => (alS o).cells.2.2.2.1
    have sa4 := fun o => (alS o).cells.2.2.2.2
    have ga0 := fun o => (alG o).cells.1
    have ga1 := fun o => (alG o).cells.2.1
    have ga2 := fun o => (alG o).cells.2.2.1
    have ga3 := fun o => (alG o).cells.2.2.2.1
    have ga4 := fun o => (alG o).cells.2.2.2.2
    have fza := fun o => (alS o).frozen
    have fra := fun o => (alG o).frozen
    have ltS := HS.out.lt
    clear alS alG
    by_cases hbz : b = 0
    · subst hbz
      go_wp2
      obtain ⟨t0, t1, t2, t3, t4⟩ := (HG.out.set5 a0 b0 a1 b1 odd).cells
      refine bodyPost_ret (v := .agg #[.int .u64 a0, .int .u64 b0, .int .u64 a1, .int .u64 b1, .bool odd]) (by simp [results, Tryd.results62, go_sem, t0, t1, t2, t3, t4]) rfl ⟨?_, a0, b0, a1, b1, odd, _, _, rfl, HL.out, HX.out⟩
      exact below_only hbel (only_set5 _ _ _ _ _ _ _) (Nat.le_refl _) hbel.size
    · have hbp : 0 < b := by omega
      have hbb : (b != 0) = true := by simp [hbz]
      obtain ⟨m1, m2, m3, m4, m5, m6⟩ := lh_room HL.out hyx hbp
      have cstep := lh_step HL.out hyx hbp
      obtain ⟨q, hq⟩ : ∃ q, a / b = q := ⟨_, rfl⟩
      have hq0 : 0 ≤ q := by rw [← hq]; exact Int.ediv_nonneg ha0 hb0
      have hpr : 0 ≤ a - q * b ∧ a - q * b < b ∧ 0 ≤ q * b := by
        have e1 := Int.emod_nonneg a hbz; have e2 := Int.emod_lt_of_pos a hbp; have e := Int.mul_ediv_add_emod a b
        rw [hq, Int.mul_comm] at e
        exact ⟨by omega, by omega, Int.mul_nonneg hq0 hb0⟩
      rw [hq] at m1 m2 m3 m4 m5 m6 cstep
      obtain ⟨p, hp⟩ : ∃ p, q * b = p := ⟨_, rfl⟩
      obtain ⟨qa, hqa⟩ : ∃ p, q * a1 = p := ⟨_, rfl⟩
      obtain ⟨qb, hqb⟩ : ∃ p, q * b1 = p := ⟨_, rfl⟩
      rw [hp] at hpr m5 cstep
      rw [hqa] at m2 m3 cstep
      rw [hqb] at m1 m4 m5 m6 cstep
      obtain ⟨p1, p2, p3⟩ := hpr
      obtain ⟨l0, l1, l2, l3⟩ := (⟨HL.out.p0, HL.out.p1, HL.out.p2, HL.out.p3⟩ : 0 ≤ a0 ∧ 0 ≤ b0 ∧ 0 ≤ a1 ∧ 1 ≤ b1)
      obtain ⟨z1, z2, z3, z4⟩ := HX.out
      have CS := hid cstep
      have M5 := hid m5
      clear cstep m5
      by_cases c1 : a - p < b0 + qb
      · have c1b : decide (a - p < b0 + qb) = true := by simp [c1]
        go_wp2
        obtain ⟨t0, t1, t2, t3, t4⟩ := ((HG.out.below ((Below.refl _ _).alloc (Nat.le_refl _) (.cells #[.int .u64 a1, .int .u64 b1, .int .u64 (a0 + qa), .int .u64 (b0 + qb), .bool !odd] 79))).set5 a0 b0 a1 b1 odd).cells
        refine bodyPost_ret (v := .agg #[.int .u64 a0, .int .u64 b0, .int .u64 a1, .int .u64 b1, .bool odd]) (by simp [results, Tryd.results62, go_sem, t0, t1, t2, t3, t4]) rfl ⟨?_, a0, b0, a1, b1, odd, _, _, rfl, HL.out, HX.out⟩
        exact below_only (hbel.alloc hbel.size _) (only_set5 _ _ _ _ _ _ _) (Nat.le_refl _) (by have := hbel.size; simp; omega)
      · have c1b : decide (a - p < b0 + qb) = false := by simp; omega
        have hm5 := M5.out (by omega)
        by_cases c2 : b - (a - p) < b1 + (b0 + qb)
        · have c2b : decide (b - (a - p) < b1 + (b0 + qb)) = true := by simp [c2]
          go_wp2
          obtain ⟨t0, t1, t2, t3, t4⟩ := ((HG.out.below ((Below.refl _ _).alloc (Nat.le_refl _) (.cells #[.int .u64 a1, .int .u64 b1, .int .u64 (a0 + qa), .int .u64 (b0 + qb), .bool !odd] 79))).set5 a0 b0 a1 b1 odd).cells
          refine bodyPost_ret (v := .agg #[.int .u64 a0, .int .u64 b0, .int .u64 a1, .int .u64 b1, .bool odd]) (by simp [results, Tryd.results62, go_sem, t0, t1, t2, t3, t4]) rfl ⟨?_, a0, b0, a1, b1, odd, _, _, rfl, HL.out, HX.out⟩
          exact below_only (hbel.alloc hbel.size _) (only_set5 _ _ _ _ _ _ _) (Nat.le_refl _) (by have := hbel.size; simp; omega)
        · have c2b : decide (b - (a - p) < b1 + (b0 + qb)) = false := by simp; omega
          have NX := hid (CS.out (by omega) (by omega))
          go_wp2
          go_region
          all_goals
            go_wp2
            go_roundw
            case rel =>
              have o1 : Only (w.heap.size + 1) wr _ := only_set5 wr (w.heap.size + 1) (.int .u64 a1) (.int .u64 b1) (.int .u64 (a0 + qa)) (.int .u64 (b0 + qb)) (.bool !odd)
              have b1' := below_only hbel o1 (by omega) hbel.size
              refine ⟨b, a - p, a1, b1, a0 + qa, b0 + qb, !odd, rfl, rfl, by omega, by omega, by omega, by omega, (b1'.alloc b1'.size _).drew, ?_, ?_, NX.out, ?_⟩
              · exact (show SB _ _ _ _ _ _ _ from (o1.block _ HG.out.lt (by omega)).trans HG.out).below ((Below.refl _ _).alloc (Nat.le_refl _) _).drew
              · exact (HS.out.set5 a1 b1 (a0 + qa) (b0 + qb) (!odd)).below ((Below.refl _ _).alloc (Nat.le_refl _) _).drew
              · show _ ∧ _ ∧ _ ∧ _
                omega
            case measure => simp [intOf]; omega
end Go.Proofs.YtjjbmioicliipabDoor

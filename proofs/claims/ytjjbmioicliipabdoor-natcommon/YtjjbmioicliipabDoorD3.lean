/-
  The walk of package nat's takeOut: a digit of a long quotient, and what is left.
-/
import Derived.Test.YtjjbmioicliipabDoorD2
import Derived.BigQuiet
namespace Go.Proofs.YtjjbmioicliipabDoor
open Go.RowKit

/-- The guess, told by what it is. -/
def gq (T V : Int) : Int := if T / V ≤ 18446744073709551615 then T / V else 18446744073709551615
theorem gq_of {T V t : Int} (hV : 0 < V) (t1 : t < 18446744073709551616) (h1 : t * V ≤ T) (h2 : t = 18446744073709551615 ∨ T < (t + 1) * V) : t = gq T V := by
  have e1 := Int.mul_ediv_add_emod T V
  have e2 := Int.emod_nonneg T (show V ≠ 0 by omega)
  have e3 := Int.emod_lt_of_pos T hV
  have le : t ≤ T / V := (Int.le_ediv_iff_mul_le hV).2 h1
  unfold gq
  rcases h2 with rfl | h2
  · split <;> omega
  · have : T / V < t + 1 := (Int.ediv_lt_iff_lt_mul hV).2 h2
    rw [if_pos (by omega)]; omega

theorem guess_q (u2 u1 u0 v1 v0 : Int) (w : World) (a0 : 0 ≤ u2) (a1 : u2 ≤ v1) (b0 : 0 ≤ u1) (b1 : u1 < 18446744073709551616) (c0 : 0 ≤ u0) (c1 : u0 < 18446744073709551616) (d0 : 0 ≤ v0) (d1 : v0 < 18446744073709551616) (e0 : 0 < v1) (e1 : v1 < 18446744073709551616) :
    Calls Tryd.prog 67 #[.int .u64 u2, .int .u64 u1, .int .u64 u0, .int .u64 v1, .int .u64 v0] w fun e w' => e = .returned (.int .u64 (gq ((u2 * 18446744073709551616 + u1) * 18446744073709551616 + u0) (v1 * 18446744073709551616 + v0))) ∧ ∃ q, w' = w.drewN q := by
  refine (guess_c u2 u1 u0 v1 v0 w a0 a1 b0 b1 c0 c1 d0 d1 e0 e1).mono ?_
  rintro e w' ⟨hq, t, rfl, t0, t1, h1, h2⟩
  refine ⟨?_, hq⟩
  rw [← gq_of (by omega) t1 h1 h2]
theorem gq_is {T V : Int} (hT : 0 ≤ T) (hV : 0 < V) : 0 ≤ gq T V ∧ gq T V < 18446744073709551616 ∧ gq T V * V ≤ T ∧ (gq T V = 18446744073709551615 ∨ T < (gq T V + 1) * V) := by
  have e1 := Int.mul_ediv_add_emod T V
  have e2 := Int.emod_nonneg T (show V ≠ 0 by omega)
  have e3 := Int.emod_lt_of_pos T hV
  have e4 : 0 ≤ T / V := Int.ediv_nonneg hT (by omega)
  have e5 : T / V * V = V * (T / V) := Int.mul_comm _ _
  unfold gq
  split
  · exact ⟨e4, by omega, by omega, .inr (by rw [Int.add_mul]; omega)⟩
  · refine ⟨by decide, by decide, ?_, .inl rfl⟩
    have : 18446744073709551615 * V ≤ T / V * V := Int.mul_le_mul_of_nonneg_right (by omega) (by omega)
    omega

theorem top2 (f : Nat → Int) (m : Nat) : vf f (m + 2) = vf f m + (f (m + 1) * 18446744073709551616 + f m) * pw m := by
  rw [vf_succ, vf_succ, pw_succ]; grind
theorem top3 (f : Nat → Int) (m : Nat) : vf f (m + 2 + 1) = vf f m + ((f (m + 2) * 18446744073709551616 + f (m + 1)) * 18446744073709551616 + f m) * pw m := by
  rw [vf_succ, vf_succ, vf_succ, pw_succ (m + 1), pw_succ m]; grind

/-- A guess by the highest limbs is right or one too great. -/
theorem div_range {lu lv T V2 t p U V : Int} (hU : U = lu + T * p) (hV : V = lv + V2 * p) (a0 : 0 ≤ lu) (a1 : lu < p) (b0 : 0 ≤ lv) (b1 : lv < p) (hUV : U < V * 18446744073709551616) (hV2 : 18446744073709551616 ≤ V2) (t0 : 0 ≤ t) (t1 : t < 18446744073709551616) (h1 : t * V2 ≤ T) (h2 : t = 18446744073709551615 ∨ T < (t + 1) * V2) :
    U < (t + 1) * V ∧ (t - 1) * V ≤ U := by
  have hp : 0 < p := by omega
  constructor
  · rcases h2 with rfl | h2
    · omega
    · have e1 : (T + 1) * p ≤ (t + 1) * V2 * p := Int.mul_le_mul_of_nonneg_right (by omega) (Int.le_of_lt hp)
      have e2 : 0 ≤ (t + 1) * lv := Int.mul_nonneg (by omega) b0
      rw [hV, Int.mul_add, ← Int.mul_assoc, hU]
      rw [Int.add_mul, Int.one_mul] at e1
      omega
  · have hT : 0 ≤ T := Int.le_trans (Int.mul_nonneg t0 (by omega)) h1
    have hTp : 0 ≤ T * p := Int.mul_nonneg hT (Int.le_of_lt hp)
    by_cases h0 : t = 0
    · subst h0
      have : 0 ≤ V2 * p := Int.mul_nonneg (by omega) (Int.le_of_lt hp)
      omega
    · have e1 : (t - 1) * V ≤ (t - 1) * ((V2 + 1) * p) := Int.mul_le_mul_of_nonneg_left (by rw [Int.add_mul, Int.one_mul]; omega) (by omega)
      have e2 : (t - 1) * (V2 + 1) = t * V2 + t - V2 - 1 := by grind
      have e3 : (t - 1) * (V2 + 1) * p ≤ T * p := Int.mul_le_mul_of_nonneg_right (by rw [e2]; omega) (Int.le_of_lt hp)
      rw [← Int.mul_assoc] at e1
      omega

theorem only_drewN {g : Nat} {a w : World} (h : Only g a w) (q : Nat) : Only g a (w.drewN q) := ⟨h.os, h.tape, h.output, h.size, h.block⟩

/-- What takeOut leaves. -/
structure Took (g o n N : Nat) (f : Nat → Int) (w w' : World) (V t : Int) : Prop where
  t0 : 0 ≤ t
  t1 : t < 18446744073709551616
  only : Only g w w'
  res : ∃ f', Blk .u64 32 w' g N f' ∧ Lm f' N ∧ (∀ j, j < o ∨ o + (n + 1) ≤ j → f' j = f j) ∧ vf (sh f' o) (n + 1) = vf (sh f o) (n + 1) - t * V ∧ vf (sh f' o) (n + 1) < V

set_option maxRecDepth 100000 in
set_option maxHeartbeats 4000000 in
theorem takeOut_c (g o n cap N : Nat) (f : Nat → Int) (b ob cb : Nat) (h : Nat → Int) (w : World) (hb : Blk .u64 32 w g N f) (hf : Lm f N) (ho : o + (n + 1) ≤ N) (hN : N ≤ 17592186044416) (hcap : n + 1 ≤ cap) (hcm : cap ≤ 17592186044416)
    (hr : Rd .u64 w (some ⟨b, ob, none⟩) n h) (hh : Lm h n) (hoff : b ≠ g) (hn2 : 2 ≤ n) (htop : 9223372036854775808 ≤ h (n - 1)) (hUV : vf (sh f o) (n + 1) < vf h n * 18446744073709551616) :
    Calls Tryd.prog 48 #[.slice (some ⟨g, o, none⟩) (n + 1) cap, .slice (some ⟨b, ob, none⟩) n cb] w fun e w' => ∃ t, e = .returned (.int .u64 t) ∧ Took g o n N f w w' (vf h n) t := by
  obtain ⟨m, rfl⟩ : ∃ m, n = m + 2 := ⟨n - 2, by omega⟩
  obtain ⟨x2, hx2⟩ : ∃ x, f (o + (m + 2)) = x := ⟨_, rfl⟩
  obtain ⟨x1, hx1⟩ : ∃ x, f (o + (m + 1)) = x := ⟨_, rfl⟩
  obtain ⟨x0, hx0⟩ : ∃ x, f (o + m) = x := ⟨_, rfl⟩
  obtain ⟨y1, hy1⟩ : ∃ x, h (m + 1) = x := ⟨_, rfl⟩
  obtain ⟨y0, hy0⟩ : ∃ x, h m = x := ⟨_, rfl⟩
  have hcx2 : w.cell? ⟨g, o + (m + 2), none⟩ = some (.int .u64 x2) := by rw [← hx2]; exact hb.cell (by omega)
  have hcx1 : w.cell? ⟨g, o + (m + 1), none⟩ = some (.int .u64 x1) := by rw [← hx1]; exact hb.cell (by omega)
  have hcx0 : w.cell? ⟨g, o + m, none⟩ = some (.int .u64 x0) := by rw [← hx0]; exact hb.cell (by omega)
  have hcy1 : w.cell? ⟨b, ob + (m + 1), none⟩ = some (.int .u64 y1) := by rw [← hy1]; exact hr.cell (by omega)
  have hcy0 : w.cell? ⟨b, ob + m, none⟩ = some (.int .u64 y0) := by rw [← hy0]; exact hr.cell (by omega)
  have bx2 := hf (o + (m + 2)) (by omega)
  have bx1 := hf (o + (m + 1)) (by omega)
  have bx0 := hf (o + m) (by omega)
  have by1 := hh (m + 1) (by omega)
  have by0 := hh m (by omega)
  rw [hx2] at bx2; rw [hx1] at bx1; rw [hx0] at bx0; rw [hy1] at by1; rw [hy0] at by0
  have htop' : 9223372036854775808 ≤ y1 := by rw [← hy1]; exact htop
  have hU := top3 (sh f o) m
  have hV := top2 h m
  simp only [sh_at] at hU
  rw [hx2, hx1, hx0] at hU
  rw [hy1, hy0] at hV
  have lu0 := vf_nonneg (hf.sh (o := o) (m := m) (by omega))
  have lu1 := vf_lt (hf.sh (o := o) (m := m) (by omega))
  have lv0 := vf_nonneg (hh.mono (m := m) (by omega))
  have lv1 := vf_lt (hh.mono (m := m) (by omega))
  have hV0 := vf_nonneg hh
  have hV1 := vf_lt hh
  have hx2y1 : x2 ≤ y1 := by
    apply Int.le_of_lt_add_one
    have p0 := pw_pos m
    have e1 : ((x2 * 18446744073709551616 + x1) * 18446744073709551616 + x0) * pw m < ((y1 + 1) * 18446744073709551616 * 18446744073709551616) * pw m := by
      have a2 : (y1 * 18446744073709551616 + y0 + 1) * pw m ≤ ((y1 + 1) * 18446744073709551616) * pw m := Int.mul_le_mul_of_nonneg_right (by omega) (Int.le_of_lt p0)
      rw [Int.add_mul _ 1, Int.one_mul] at a2
      have a3 : ((y1 + 1) * 18446744073709551616 * 18446744073709551616) * pw m = ((y1 + 1) * 18446744073709551616) * pw m * 18446744073709551616 := by grind
      rw [a3]
      omega
    have e2 := Int.lt_of_mul_lt_mul_right e1 (Int.le_of_lt p0)
    omega
  obtain ⟨T, hT⟩ : ∃ T, (x2 * 18446744073709551616 + x1) * 18446744073709551616 + x0 = T := ⟨_, rfl⟩
  obtain ⟨V2, hV2⟩ : ∃ V2, y1 * 18446744073709551616 + y0 = V2 := ⟨_, rfl⟩
  have cg := fun W => guess_q x2 x1 x0 y1 y0 W bx2.1 hx2y1 bx1.1 bx1.2 bx0.1 bx0.2 by0.1 by0.2 (by omega) by1.2
  have hgi := gq_is (T := T) (V := V2) (by omega) (by omega)
  rw [hT] at hU cg
  rw [hV2] at hV cg
  obtain ⟨t, ht⟩ : ∃ t, gq T V2 = t := ⟨_, rfl⟩
  rw [ht] at cg hgi
  obtain ⟨t0, t1, ht1, ht2⟩ := hgi
  have hrange := div_range hU hV lu0 lu1 lv0 lv1 hUV (by omega) t0 t1 ht1 ht2
  have CG := hid cg; have RNG := hid hrange; have HB := hid hb; have HF := hid hf; have HR := hid hr; have HH := hid hh; have HX2 := hid hx2
  have hfz := hb.frozen (o + (m + 2))
  have BV0 := hid hV0; have BV1 := hid hV1
  clear cg hrange hb hf hr hh hT hV2 ht ht1 ht2 hU hV lu0 lu1 lv0 lv1 hUV hx2 hx1 hx0 hy1 hy0 htop hV0 hV1
  have i1 : ((m + 2 : Nat) : Int) < ((m + 2 + 1 : Nat) : Int) := by omega
  obtain ⟨bx2a, bx2b⟩ := bx2
  go_enter Tryd.func48, Tryd.ntmps48
  go_wp2
  go_quiet ((go_at_call 67; exact (CG.out _).mono (fun _ _ h => ⟨h.1, (by obtain ⟨q, hq⟩ := h.2; exact ⟨_, by rw [hq, World.drewN_drewN]⟩)⟩)))
  go_wp2_with fail
  refine (mulSubFrom_c g o (m + 2 + 1) cap N f (some ⟨b, ob, none⟩) (m + 2) cb h t (w.drewN _) HB.out HF.out ho HR.out HH.out (fun _ => off_some hoff) (by omega) hcap (by omega) t0 t1).mono ?_
  rintro e w1 ⟨ov, rfl, v0, v1, hon1, f1, hb1, hl1, he1, hv1⟩
  have HV1 := hid hv1
  have hx2' : f1 (o + (m + 2)) = x2 := (he1 _ (by omega)).trans HX2.out
  have hcx2' : w1.cell? ⟨g, o + (m + 2), none⟩ = some (.int .u64 x2) := by rw [← hx2']; exact hb1.cell (by omega)
  have hfz1 := hb1.frozen (o + (m + 2))
  have HX2' := hid hx2'
  have HE1 := hid he1; have HL1 := hid hl1; have HB1 := hid hb1
  clear hv1 hx2' he1 hl1 hb1 hcx2 hcx1 hcx0 hcy1 hcy0 hfz
  have n1 := vf_nonneg (HL1.out.sh (o := o) (m := m + 2) (by omega))
  have n2 := vf_lt (HL1.out.sh (o := o) (m := m + 2) (by omega))
  have N1 := hid n1; have N2 := hid n2
  clear n1 n2
  have hUe : vf (sh f o) (m + 2 + 1) = vf (sh f o) (m + 2) + x2 * pw (m + 2) := by rw [vf_succ, sh_at, HX2.out]
  have hmain : vf (sh f1 o) (m + 2) + (x2 - ov) * pw (m + 2) = vf (sh f o) (m + 2 + 1) - t * vf h (m + 2) := by
    have := HV1.out
    rw [hUe, Int.sub_mul, Int.mul_comm t]; omega
  have HMain := hid hmain
  have U0 := hid (vf_nonneg (HF.out.sh (o := o) (m := m + 2 + 1) (by omega)))
  have PW := hid (pw_pos (m + 2))
  have hupd : ∀ z, vf (sh (upd f1 (o + (m + 2)) z) o) (m + 2 + 1) = vf (sh f1 o) (m + 2) + z * pw (m + 2) := fun z => by
    rw [vf_succ, sh_at, upd_same, vf_congr (f := sh (upd f1 (o + (m + 2)) z) o) (g := sh f1 o) (fun j hj => upd_other _ _ _ _ (by omega))]
  have HUpd := hid hupd
  clear hUe hmain hupd CG
  by_cases hs : x2 < ov
  · have hneg : vf (sh f o) (m + 2 + 1) - t * vf h (m + 2) < 0 := by
      rw [← HMain.out]
      have := N2.out
      have e : (x2 - ov) * pw (m + 2) ≤ (-1) * pw (m + 2) := Int.mul_le_mul_of_nonneg_right (by omega) (Int.le_of_lt PW.out)
      omega
    have ht : 0 < t := by
      apply Int.lt_of_not_ge
      intro h0
      obtain rfl : t = 0 := by omega
      have := U0.out
      omega
    obtain ⟨s, rfl⟩ : ∃ s, t = s + 1 := ⟨t - 1, by omega⟩
    have hs1 : s + 1 - 1 = s := by omega
    have hw : IntKind.u64.wrap (x2 - ov) = x2 - ov + 18446744073709551616 := by rw [IntKind.wrap_u64]; omega
    have hsb : decide (x2 < ov) = true := by simp [hs]
    have hw2 : IntKind.u64.wrap (s + 1 - 1) = s := by rw [IntKind.wrap_u64]; omega
    have HNeg := hid hneg
    clear hneg
    go_wp2_with fail
    refine (addTo_g g o (m + 2 + 1) cap N _ (some ⟨b, ob, none⟩) (m + 2) cb h _ (HB1.out.set _ _) (HL1.out.upd (by omega)) ho (by omega) ((HR.out.only (only_drewN (Only.refl g w) _) (off_some hoff)).only (hon1.trans ((Only.refl _ _).setCell _ _ _)) (off_some hoff)) HH.out (fun _ => off_some hoff) (by omega) hcap (by omega)).mono ?_
    rintro e w2 ⟨rfl, hon2, f3, c, hb3, hl3, he3, hc0, hv3⟩
    have HV3 := hid hv3; have HB3 := hid hb3; have HL3 := hid hl3; have HE3 := hid he3
    clear hv3 hb3 hl3 he3
    go_wp2
    go_ret
    have r1 := RNG.out
    have r2 := HNeg.out
    have a1 := HV3.out
    rw [HUpd.out, Int.add_mul (x2 - ov), ← Int.add_assoc, HMain.out, ← pw_succ (m + 2)] at a1
    rw [show s + 1 - 1 = s by omega] at r1
    have a2 := vf_nonneg (HL3.out.sh (o := o) (m := m + 2 + 1) (by omega))
    have a3 := vf_lt (HL3.out.sh (o := o) (m := m + 2 + 1) (by omega))
    have a4 : (s + 1) * vf h (m + 2) = s * vf h (m + 2) + vf h (m + 2) := by rw [Int.add_mul, Int.one_mul]
    have a5 : (s + 1 + 1) * vf h (m + 2) = s * vf h (m + 2) + vf h (m + 2) + vf h (m + 2) := by rw [Int.add_mul, Int.add_mul, Int.one_mul]
    have a6 : pw (m + 2) < pw (m + 2 + 1) := by have := pw_pos (m + 2); rw [pw_succ (m + 2)]; omega
    have a7 := BV1.out
    have a8 := pw_pos (m + 2 + 1)
    have hc1 : c = 1 := by
      have hc2 : c < 2 := by
        apply Int.lt_of_not_ge; intro hc
        have : 2 * pw (m + 2 + 1) ≤ c * pw (m + 2 + 1) := Int.mul_le_mul_of_nonneg_right hc (Int.le_of_lt a8)
        omega
      have hc3 : c ≠ 0 := by
        rintro rfl
        omega
      omega
    subst hc1
    refine ⟨s, rfl, by omega, by omega, ((only_drewN (Only.refl g w) _).trans hon1).trans (((Only.refl _ _).setCell _ _ _).trans hon2), f3, HB3.out, HL3.out, fun j hj => ?_, by omega, by omega⟩
    rw [HE3.out j hj, upd_other _ _ _ _ (by omega), HE1.out j (by omega)]
  · have hw : IntKind.u64.wrap (x2 - ov) = x2 - ov := by rw [IntKind.wrap_u64]; omega
    have hsb : decide (x2 < ov) = false := by simp; omega
    go_wp2
    go_ret
    have r1 := RNG.out
    have a0 := HMain.out
    have a1 := HUpd.out (x2 - ov)
    have a4 : (t + 1) * vf h (m + 2) = t * vf h (m + 2) + vf h (m + 2) := by rw [Int.add_mul, Int.one_mul]
    refine ⟨t, rfl, t0, t1, ((only_drewN (Only.refl g w) _).trans hon1).trans ((Only.refl _ _).setCell _ _ _), upd f1 (o + (m + 2)) (x2 - ov), HB1.out.set _ _, HL1.out.upd (by omega), fun j hj => ?_, by omega, by omega⟩
    rw [upd_other _ _ _ _ (by omega), HE1.out j (by omega)]
end Go.Proofs.YtjjbmioicliipabDoor

/-
  The walks of package rat's Neg, Of and Make, with the owners of what they answer (written by makers/ow.py). Walks of the document's reference for rat: Twin; the same digits elsewhere. Walks of package rat's calls Text on numbers in form, and Read on the text 4/2. The walk of package rat's call Text on -3/2. The walk of the statements' own look at answers of rat that the document fixes (awake). The walk of RatSums. Walks of rat.Make and of the document's DocMake, whatever they are handed. Lists in memory that are told apart by their blocks; append, with the place of what it answers. No Go text is named here. The two rounds of stores of a statement that spoils lists and looks at the others: what stays. Lists of limbs. The two rounds of stores of a statement that spoils lists and looks at the others, where the lists lie in a row of structs. The walk of the statement's answers: the lists that nat's calls answer, each in a block of its own. Rat's calls, whatever they are handed, with the owners of what they answer; answers gathered one after another (written by makers/ow.py). Boxes of four cells. No Go text is named here. Bounds (api.Ext) as they lie in memory: boxes of four cells; what is in form; the order. Walks of ext: isZero, Form, allForm, number, infinity, Low, High, Copy, Cmp, Max, Min; of cmp.Compare at int. Walks of the document's reference for ext: Twin, From, To, Num, Low, High, Same, Form, Cmp, Max, Min. Walks of ext: allForm, Cmp, Max, Min, whatever they are handed.
-/
import Derived.Test.YtlpmfmphglgocaaGreatDoorZ5
import Derived.Test.YtlpmfmphglgocaaGreatDoorZ1
import Derived.Test.YtlpmfmphglgocaaGreatDoorZ2
import Derived.Test.YtlpmfmphglgocaaGreatDoorZ4
namespace Go.Proofs.YtlpmfmphglgocaaGreatDoor
open Go.RowKit

set_option maxRecDepth 100000 in
set_option maxHeartbeats 4000000 in
theorem rCopy_oA {w : World} {sa : Bool} {xa : Option Addr} {na ca : Nat} {fa : Nat → Int} {ya : Option Addr} {ma da : Nat} {ga : Nat → Int} (ha : Rw w xa na ca fa ya ma da ga) (hn : na ≤ 1048576) (hm : ma ≤ 1048576) :
    Calls Tryz.prog 69 #[.agg #[.bool sa, .slice xa na ca, .slice ya ma da]] w fun e w' => ∃ x c y d, e = .returned (.agg #[.bool sa, .slice x na c, .slice y ma d]) ∧ Below w.heap.size w w' ∧ Hid (Own .u64 28 w' w.heap.size (.slice x na c) na fa ∧ Own .u64 28 w' w.heap.size (.slice y ma d) ma ga ∧ Apart x y) := by
  have h1 := (ha.alloc (.cells #[.bool sa, .slice xa na ca, .slice ya ma da] 24)).alloc (.cells #[.bool false, .slice none 0 0, .slice none 0 0] 24)
  have h3 := ob_new (w.alloc (.cells #[.bool sa, .slice xa na ca, .slice ya ma da] 24)) 24
  rw [size_alloc1] at h3
  have h4 := below_alloc (below_alloc (Below.refl w.heap.size w) (.cells #[.bool sa, .slice xa na ca, .slice ya ma da] 24)) (.cells #[.bool false, .slice none 0 0, .slice none 0 0] 24)
  have h5 := (bx3_at w (.bool sa) (.slice xa na ca) (.slice ya ma da) 24).alloc (.cells #[.bool false, .slice none 0 0, .slice none 0 0] 24)
  have h6 : ((w.alloc (.cells #[.bool sa, .slice xa na ca, .slice ya ma da] 24)).alloc (.cells #[.bool false, .slice none 0 0, .slice none 0 0] 24)).heap.size = w.heap.size + 1 + 1 := by simp
  clear ha
  go_enter Tryz.func69, Tryz.ntmps69
  go_wp2_with fail
  generalize (w.alloc (.cells #[.bool sa, .slice xa na ca, .slice ya ma da] 24)).alloc (.cells #[.bool false, .slice none 0 0, .slice none 0 0] 24) = w1 at *
  have HA := hid h1; have OB := h3; have HW := hid h4; have H6 := hid h6
  obtain ⟨hz, z0, z1, z2, zf⟩ := h3
  obtain ⟨hy, x0, x1, x2⟩ := h5
  clear h1 h4 h6
  have C1 : Hid (∀ W, Below w1.heap.size w1 W → Calls Tryz.prog 101 #[.slice xa na ca] W fun e w' => ∃ z c', e = .returned (.slice z na c') ∧ Below W.heap.size W w' ∧ Hid (Own .u64 28 w' w1.heap.size (.slice z na c') na fa)) := fun W hW => (rclone_c xa na ca fa W hn (HA.out.below hW).rx (HA.out.below hW).nx).mono (fun _ _ ⟨z, c', a1, a2, a3⟩ => ⟨z, c', a1, a2, a3.base hW.size⟩)
  have C2 : Hid (∀ W, Below w1.heap.size w1 W → Calls Tryz.prog 101 #[.slice ya ma da] W fun e w' => ∃ z c', e = .returned (.slice z ma c') ∧ Below W.heap.size W w' ∧ Hid (Own .u64 28 w' W.heap.size (.slice z ma c') ma ga)) := fun W hW => (rclone_c ya ma da ga W hm (HA.out.below hW).ry (HA.out.below hW).ny).mono (fun _ _ ⟨z, c', a1, a2, a3⟩ => ⟨z, c', a1, a2, a3⟩)
  go_region_held3 (fun w' => w'.cell? ⟨w.heap.size, 0, none⟩ = some (.bool sa) ∧ w'.cell? ⟨w.heap.size, 1, none⟩ = some (.slice xa na ca) ∧ w'.cell? ⟨w.heap.size, 2, none⟩ = some (.slice ya ma da) ∧ (w'.cell? ⟨w.heap.size + 1, 0, none⟩).isSome = true ∧ (w'.cell? ⟨w.heap.size + 1, 1, none⟩).isSome = true ∧ (w'.cell? ⟨w.heap.size + 1, 2, none⟩).isSome = true ∧ w'.frozen? ⟨w.heap.size + 1, 0, none⟩ = false ∧ w'.frozen? ⟨w.heap.size + 1, 1, none⟩ = false ∧ w'.frozen? ⟨w.heap.size + 1, 2, none⟩ = false)
    (refine ⟨?_, ?_, ?_, ?_, ?_, ?_, ?_, ?_, ?_⟩ <;> repeat (with_reducible first | assumption | exact zf _ | exact kI0 z0 | exact kI0 z1 | exact kI0 z2 | exact tf _ | exact kI0 t0 | exact kI0 t1 | exact kI0 t2 | exact uf _ | exact kI0 u0 | exact kI0 u1 | exact kI0 u2 | refine kCd ?_ | refine kId ?_ | refine kFd ?_ | refine kCs (by simp only [ne_eq]; omega) ?_ | refine kIs ?_ | refine kFs ?_ | refine kCb (by assumption) ?_ | refine kIb (by assumption) ?_))
    (first
      | (go_at_call 101; with_reducible refine (C1.out _ (by repeat (with_reducible first | assumption | exact Below.refl _ _ | refine Below.drew ?_ | refine kBa ?_ | refine kBb (by assumption) ?_))).mono ?_; rintro e w5 ⟨zp, cp, rfl, hb5, HP⟩; have TU : Ob w5 (w.heap.size + 1) := (by repeat (with_reducible first | exact OB | exact TU | exact TV | refine Ob.drew ?_ | refine kOb (by assumption) ?_)); obtain ⟨_, t0, t1, t2, tf⟩ := id TU)
      | (go_at_call 101; with_reducible refine (C2.out _ (by repeat (with_reducible first | assumption | exact Below.refl _ _ | refine Below.drew ?_ | refine kBa ?_ | refine kBb (by assumption) ?_))).mono ?_; rintro e w6 ⟨zq, cq, rfl, hb6, HQ⟩; have TV : Ob w6 (w.heap.size + 1) := (by repeat (with_reducible first | exact OB | exact TU | exact TV | refine Ob.drew ?_ | refine kOb (by assumption) ?_)); obtain ⟨_, u0, u1, u2, uf⟩ := id TV))
  have WA := HP.out.below hb6
  have hb : Below w1.heap.size w1 w6 := (by repeat (with_reducible first | assumption | exact Below.refl _ _ | refine Below.drew ?_ | refine kBa ?_ | refine kBb (by assumption) ?_))
  have h6 := H6.out
  have AP := own_ap HP.out HQ.out (Nat.le_refl _)
  have OQ2 := HQ.out.base (show w1.heap.size ≤ _ from (show Below w1.heap.size w1 w5 by repeat (with_reducible first | assumption | exact Below.refl _ _ | refine Below.drew ?_ | refine kBa ?_ | refine kBb (by assumption) ?_)).size)
  go_wp2
  exact bodyPost_ret (v := .agg #[.bool sa, .slice zp na cp, .slice zq ma cq]) (by simp [results, Tryz.results69, go_sem, u0, u1, u2]) rfl ⟨zp, cp, zq, cq, rfl, below_st (HW.out.trans (hb.mono HW.out.size)) (by omega), (own_st3 WA (by omega)).base (by omega), (own_st3 OQ2 (by omega)).base (by omega), AP⟩

theorem rCopy_noA {L : Nat} {w : World} {sa : Bool} {xa : Option Addr} {na ca : Nat} {fa : Nat → Int} {ya : Option Addr} {ma da : Nat} {ga : Nat → Int} {a : Rat} (ha : Rn L w sa xa na ca fa ya ma da ga a) (hL : L ≤ 200000) :
    Calls Tryz.prog 69 #[.agg #[.bool sa, .slice xa na ca, .slice ya ma da]] w fun e w' => ∃ x c y d, e = .returned (.agg #[.bool sa, .slice x na c, .slice y ma d]) ∧ Below w.heap.size w w' ∧ Rn L w' sa x na c fa y ma d ga a ∧ Own .u64 28 w' w.heap.size (.slice x na c) na fa ∧ Own .u64 28 w' w.heap.size (.slice y ma d) ma ga ∧ Apart x y := by
  have h1 := ha.ln; have h2 := ha.ld
  refine (rCopy_oA (sa := sa) ha.rw (by omega) (by omega)).mono ?_
  rintro e w' ⟨x, c, y, d, rfl, hb, ho⟩
  obtain ⟨o1, o2, o3⟩ := ho.out
  have q1 := o1.slice; have q2 := o2.slice
  exact ⟨x, c, y, d, rfl, hb, ⟨⟨q1.2.2.2.1, ha.num.lm, ha.num.wf, ⟨q1.1, q1.2.1⟩, q1.2.2.1, ha.num.val⟩, ⟨q2.2.2.2.1, ha.den.lm, ha.den.wf, ⟨q2.1, q2.2.1⟩, q2.2.2.1, ha.den.val⟩, h1, h2⟩, o1, o2, o3⟩
set_option maxRecDepth 100000 in
set_option maxHeartbeats 4000000 in
theorem rNeg_o {L : Nat} {w : World} {sa : Bool} {xa : Option Addr} {na ca : Nat} {fa : Nat → Int} {ya : Option Addr} {ma da : Nat} {ga : Nat → Int} {a : Rat} (ha : Rn L w sa xa na ca fa ya ma da ga a) (hL : L ≤ 200000) :
    Calls Tryz.prog 30 #[.agg #[.bool sa, .slice xa na ca, .slice ya ma da]] w fun e w' => RatTupO L w w' e (-a) := by
  have HA0 := hid ha
  have b1 := ha.num.cap
  clear ha
  go_enter Tryz.func30, Tryz.ntmps30
  go_wp2_with fail
  refine (rForm_n ((HA0.out.alloc _).alloc _) (by omega)).mono ?_
  rintro e w1 ⟨rfl, hbel⟩
  have hbx := ((bx3_at w _ _ _ _).alloc _).below hbel
  have hob := (ob_new (w.alloc _) _).below hbel
  rw [size_alloc1] at hob
  have HW1 : Hid (Below w.heap.size w w1) := (below_alloc (below_alloc (Below.refl w.heap.size w) _) _).trans (hbel.mono (by simp; omega))
  have HA1 := hid (HA0.out.below HW1.out); have OB1 := hid hob
  clear hbel hob HA0
  obtain ⟨za, x0, x1, x2⟩ := hbx
  go_wp2_with fail
  refine (rCopy_noA HA1.out hL).mono ?_
  rintro e w2 ⟨xp, cp, yp, dp, rfl, hb, hr, hon, hod, hap⟩
  have AP := hid hap
  clear hap
  have hz1 := OB1.out.z
  have ON2 := hid (hon.base (show w.heap.size + 1 + 1 ≤ _ by omega)); have OD2 := hid (hod.base (show w.heap.size + 1 + 1 ≤ _ by omega))
  clear hon hod hz1
  have RP2 := hid hr; have OB2 := hid (OB1.out.below hb); have HW2 := hid (HW1.out.trans (hb.mono HW1.out.size))
  clear hr hb OB1 HW1 HA1 za x0 x1 x2
  go_wp2_with fail
  refine (rsigned_c _ xp yp na cp ma dp _ (by omega)).mono ?_
  rintro e w3 ⟨rs, rfl, HRS, hb⟩
  have RP3 := hid (RP2.out.next hb); have ON3 := hid ((ON2.out.alloc _).below hb); have OD3 := hid ((OD2.out.alloc _).below hb); have OB3 := hid (OB2.out.next hb); have HW3 := hid ((below_alloc HW2.out _).trans (hb.mono (below_alloc HW2.out _).size))
  clear hb RP2 OB2 HW2
  obtain ⟨hz, z0, z1, z2, zf⟩ := OB3.out
  go_wp2
  exact bodyPost_ret (v := .tuple #[.agg #[.bool rs, .slice xp na cp, .slice yp ma dp], .int .i64 0]) (by simp [results, Tryz.results30, go_sem, z0, z1, z2]) rfl ⟨rs, xp, na, cp, fa, yp, ma, dp, ga, rfl, below_st HW3.out (by omega), OB3.out.rn (RP3.out.negate HRS.out), (own_st3 ON3.out (by omega)).base (by omega), (own_st3 OD3.out (by omega)).base (by omega), AP.out⟩
theorem ratOne_o (w : World) :
    Calls Tryz.prog 65 #[] w fun e w' => ∃ x f, e = .returned (.slice x 1 1) ∧ Below w.heap.size w w' ∧ Wn w' false x 1 1 f 1 ∧ Own .u64 28 w' w.heap.size (.slice x 1 1) 1 f := by
  go_enter Tryz.func65, Tryz.ntmps65
  go_wp2
  go_ret
  refine ⟨_, fun _ => 1, rfl, ?_, ?_, own_one w w.heap.size w.heap.size 1 (Nat.le_refl _) rfl⟩
  · exact below_alloc (Below.refl _ _) _
  · refine ⟨Rd.mk (fun j hj => ?_), fun j _ => by simp, ?_, by omega, (fun h => by cases h), ?_⟩
    · have : j = 0 := by omega
      subst this
      simp [go_sem]
    · decide
    · simp [wv, vf, pw]
set_option maxRecDepth 100000 in
set_option maxHeartbeats 4000000 in
theorem rOf_o {w : World} {z : Int} (h0 : -9223372036854775808 ≤ z) (h1 : z ≤ 9223372036854775807) :
    Calls Tryz.prog 31 #[.int .i64 z] w fun e w' => RatAnsO 4 w w' e (z : Rat) := by
  have h2 := ob_new w 24
  have h3 := below_alloc (Below.refl w.heap.size w) (.cells #[.bool false, .slice none 0 0, .slice none 0 0] 24)
  go_enter Tryz.func31, Tryz.ntmps31
  go_wp2_with fail
  generalize w.alloc (.cells #[.bool false, .slice none 0 0, .slice none 0 0] 24) = w1 at *
  have OB1 := hid h2; have HW1 := hid h3
  clear h2 h3
  refine (wOf_c z w1 h0 h1).mono ?_
  rintro e w2 ⟨s2, x2, n2, c2, f2, rfl, hr2, hv2⟩
  have hb := hr2.res.bel
  have hn2 := hr2.res.le
  have hz1 := OB1.out.z
  have hos := (hr2.res.own.base (show w.heap.size + 1 ≤ _ by omega)).alloc (.cells #[.bool s2, .slice x2 n2 c2] 44)
  clear hz1
  have hw2 := (hr2.wn hv2).alloc (.cells #[.bool s2, .slice x2 n2 c2] 44)
  have hbx : Bx (w2.alloc (.cells #[.bool s2, .slice x2 n2 c2] 44)) w2.heap.size s2 x2 n2 c2 := ⟨by simp, kN0, kN1⟩
  have hob := (OB1.out.below hb).alloc (.cells #[.bool s2, .slice x2 n2 c2] 44)
  have hbw := below_alloc (HW1.out.trans (hb.mono HW1.out.size)) (.cells #[.bool s2, .slice x2 n2 c2] 44)
  have hB8 : w.heap.size < w2.heap.size := (OB1.out.below hb).z
  clear hr2 hv2 hb OB1 HW1
  go_wp2_with fail
  generalize w2.alloc (.cells #[.bool s2, .slice x2 n2 c2] 44) = w3 at *
  generalize w2.heap.size = b3 at *
  have W3 := hid hw2; have OS := hid hos; have OB := hid hob; have HW := hid hbw
  obtain ⟨za, a0, a1⟩ := hbx
  obtain ⟨hz, z0, z1, z2, zf⟩ := hob
  clear hw2 hbw hos
  have C1 : Hid (∀ W : World, Below w3.heap.size w3 W → Calls Tryz.prog 65 #[] W fun e w' => ∃ x f, e = .returned (.slice x 1 1) ∧ Below W.heap.size W w' ∧ Hid (Wn w' false x 1 1 f 1 ∧ Own .u64 28 w' (w.heap.size + 1) (.slice x 1 1) 1 f ∧ Apart x2 x)) := fun W hW => (ratOne_o W).mono (fun _ _ ⟨x, f, k1, k2, k3, k4⟩ => ⟨x, f, k1, k2, k3, k4.base (Nat.le_trans (show w.heap.size + 1 ≤ w3.heap.size by omega) hW.size), own_ap OS.out k4 hW.size⟩)
  have C2 : Hid (∀ (W : World) (y : Option Addr), Calls Tryz.prog 52 #[.bool s2, .slice x2 n2 c2, .slice y 1 1] W fun e w' => ∃ r, e = .returned (.agg #[.bool r, .slice x2 n2 c2, .slice y 1 1]) ∧ Below W.heap.size W w' ∧ Hid (r = (s2 && decide (0 < n2)))) := fun W y => (rsigned_c s2 x2 y n2 c2 1 1 W (by omega)).mono (fun _ _ ⟨r, k1, k2, k3⟩ => ⟨r, k1, k3, k2⟩)
  go_region_held3 (fun w' => w'.cell? ⟨b3, 0, none⟩ = some (.bool s2) ∧ w'.cell? ⟨b3, 1, none⟩ = some (.slice x2 n2 c2) ∧ (w'.cell? ⟨w.heap.size, 0, none⟩).isSome = true ∧ (w'.cell? ⟨w.heap.size, 1, none⟩).isSome = true ∧ (w'.cell? ⟨w.heap.size, 2, none⟩).isSome = true ∧ w'.frozen? ⟨w.heap.size, 0, none⟩ = false ∧ w'.frozen? ⟨w.heap.size, 1, none⟩ = false ∧ w'.frozen? ⟨w.heap.size, 2, none⟩ = false)
    (refine ⟨?_, ?_, ?_, ?_, ?_, ?_, ?_, ?_⟩ <;> repeat (with_reducible first | assumption | exact zf _ | exact tf _ | exact uf _ | exact kI0 z0 | exact kI0 z1 | exact kI0 z2 | exact kI0 t0 | exact kI0 t1 | exact kI0 t2 | exact kI0 u0 | exact kI0 u1 | exact kI0 u2 | refine kCd ?_ | refine kId ?_ | refine kFd ?_ | refine kCs (by simp only [ne_eq]; omega) ?_ | refine kIs ?_ | refine kFs ?_ | refine kCb (by assumption) ?_ | refine kIb (by assumption) ?_))
    (first
      | (go_at_call 65; with_reducible refine (C1.out _ (by repeat (with_reducible first | assumption | exact Below.refl _ _ | refine Below.drew ?_ | refine kBa ?_ | refine kBb (by assumption) ?_))).mono ?_; rintro e v5 ⟨y5, f5, rfl, hb5, H5⟩; have Tt : Ob v5 (w.heap.size) := (by repeat (with_reducible first | exact OB.out | exact Tt | exact Tu | refine Ob.drew ?_ | refine kOb (by assumption) ?_)); obtain ⟨_, t0, t1, t2, tf⟩ := id Tt)
      | (go_at_call 52; with_reducible refine (C2.out _ y5).mono ?_; rintro e v6 ⟨r6, rfl, hb6, H6⟩; have Tu : Ob v6 (w.heap.size) := (by repeat (with_reducible first | exact OB.out | exact Tt | exact Tu | refine Ob.drew ?_ | refine kOb (by assumption) ?_)); obtain ⟨_, u0, u1, u2, uf⟩ := id Tu))
  all_goals
    have W5 : Wn v6 false y5 1 1 f5 1 := (by repeat (with_reducible first | exact H5.out.1 | refine kWd ?_ | refine kWb (by assumption) ?_))
    have hb : Below w3.heap.size w3 v6 := (by repeat (with_reducible first | assumption | exact Below.refl _ _ | refine Below.drew ?_ | refine kBb (by assumption) ?_))
    have O5 : Own .u64 28 v6 (w.heap.size + 1) (.slice y5 1 1) 1 f5 := H5.out.2.1.below hb6
    have hr : r6 = s2 := by
      rw [H6.out]
      have := ((wfB_iff _ _ _).1 W3.out.wf).2
      cases s2
      · rfl
      · simp; exact this rfl
    subst hr
    go_wp2
    refine bodyPost_ret (v := .agg #[.bool r6, .slice x2 n2 c2, .slice y5 1 1]) (by simp [results, Tryz.results31, go_sem, u0, u1, u2]) rfl ⟨r6, x2, n2, c2, f2, y5, 1, 1, f5, rfl, below_st (HW.out.trans (hb.mono HW.out.size)) (Nat.le_refl _), Tu.rn ⟨?_, ?_, by omega, by omega⟩, (own_st3 (OS.out.below hb) (by omega)).base (by omega), (own_st3 O5 (by omega)).base (by omega), H5.out.2.2⟩
    · rw [Rat.num_intCast]; exact W3.out.below hb
    · rw [Rat.den_intCast]; exact W5
end Go.Proofs.YtlpmfmphglgocaaGreatDoor
namespace Go.Proofs.YtlpmfmphglgocaaGreatDoor
open Go.RowKit

theorem twinD_c {w : World} {x : Option Addr} {n c : Nat} {f : Nat → Int} (hr : Rd .u64 w x n f) (hn : n ≤ 17592186044416) (hnil : x = none → n = 0 ∧ c = 0) :
    Calls Tryz.prog 26 #[.slice x n c] w fun e w' => ∃ z c', e = .returned (.slice z n c') ∧ Below w.heap.size w w' ∧ Hid (Rd .u64 w' z n f ∧ (n ≤ c' ∧ c' ≤ 9223372036854775807) ∧ (z = none → n = 0 ∧ c' = 0)) := by
  refine (twin_c x n c f w (by omega) hr hnil).mono ?_
  rintro e w' ⟨z, c', rfl, h2, h3, h4⟩
  obtain ⟨ao, cap, hv, k1, k2, k3, _, _⟩ := h4.shape
  cases hv
  exact ⟨z, c', rfl, h2, h3, ⟨k1, by unfold maxLen at k3; omega⟩, fun h => by have := k2 h; omega⟩
theorem kRdb {w w' : World} {x : Option Addr} {n : Nat} {f : Nat → Int} (hb : Below w.heap.size w w') (h : Rd .u64 w x n f) : Rd .u64 w' x n f := h.below hb (Nat.le_refl _)
theorem kRwd {w x n c f y m d g} (h : Rw w x n c f y m d g) : Rw w.drew x n c f y m d g := ⟨h.rx, h.lx, h.cx, h.nx, h.ry, h.ly, h.cy, h.ny⟩
theorem kRwb {w w' x n c f y m d g} (hb : Below w.heap.size w w') (h : Rw w x n c f y m d g) : Rw w' x n c f y m d g := h.below hb

set_option maxRecDepth 100000 in
set_option maxHeartbeats 8000000 in
theorem qTwin_c {w : World} {s : Bool} {x : Option Addr} {n c : Nat} {f : Nat → Int} {y : Option Addr} {m d : Nat} {g : Nat → Int} (h : Rw w x n c f y m d g) (hn : n ≤ 17592186044416) (hm : m ≤ 17592186044416) :
    Calls Tryz.prog 7 #[.agg #[.bool s, .slice x n c, .slice y m d]] w fun e w' => ∃ z c' z2 c2, e = .returned (.agg #[.bool s, .slice z n c', .slice z2 m c2]) ∧ Below w.heap.size w w' ∧ Hid (Rw w' z n c' f z2 m c2 g) := by
  obtain ⟨h1, h2, h3⟩ := qbox1 (w := w) (.bool s) (.slice x n c) (.slice y m d) 24 24
  have h4 := h.below h3
  clear h
  go_enter Tryz.func7, Tryz.ntmps7
  go_wp2_with fail
  generalize (w.alloc (.cells #[.bool s, .slice x n c, .slice y m d] 24)).alloc (.cells #[.bool false, .slice none 0 0, .slice none 0 0] 24) = w1 at *
  have HN := hid h4; have OB := hid h2; have HW := hid h3
  obtain ⟨z, x0, x1, x2⟩ := h1
  obtain ⟨hz, z0, z1, z2, zf⟩ := h2
  clear h3 h4
  have C1 : Hid (∀ W, Below w1.heap.size w1 W → Calls Tryz.prog 26 #[.slice x n c] W fun e w' => ∃ z c', e = .returned (.slice z n c') ∧ Below W.heap.size W w' ∧ Hid (Rd .u64 w' z n f ∧ (n ≤ c' ∧ c' ≤ 9223372036854775807) ∧ (z = none → n = 0 ∧ c' = 0))) := fun W hW => twinD_c (HN.out.below hW).rx (by omega) HN.out.nx
  have C2 : Hid (∀ W, Below w1.heap.size w1 W → Calls Tryz.prog 26 #[.slice y m d] W fun e w' => ∃ z c', e = .returned (.slice z m c') ∧ Below W.heap.size W w' ∧ Hid (Rd .u64 w' z m g ∧ (m ≤ c' ∧ c' ≤ 9223372036854775807) ∧ (z = none → m = 0 ∧ c' = 0))) := fun W hW => twinD_c (HN.out.below hW).ry (by omega) HN.out.ny
  go_region_held3 (fun w' => w'.cell? ⟨w.heap.size, 0, none⟩ = some (.bool s) ∧ w'.cell? ⟨w.heap.size, 1, none⟩ = some (.slice x n c) ∧ w'.cell? ⟨w.heap.size, 2, none⟩ = some (.slice y m d) ∧ (w'.cell? ⟨w.heap.size + 1, 0, none⟩).isSome = true ∧ (w'.cell? ⟨w.heap.size + 1, 1, none⟩).isSome = true ∧ (w'.cell? ⟨w.heap.size + 1, 2, none⟩).isSome = true ∧ w'.frozen? ⟨w.heap.size + 1, 0, none⟩ = false ∧ w'.frozen? ⟨w.heap.size + 1, 1, none⟩ = false ∧ w'.frozen? ⟨w.heap.size + 1, 2, none⟩ = false)
    (refine ⟨?_, ?_, ?_, ?_, ?_, ?_, ?_, ?_, ?_⟩ <;> repeat (with_reducible first | assumption | exact zf _ | exact tf _ | exact uf _ | exact kI0 z0 | exact kI0 z1 | exact kI0 z2 | exact kI0 t0 | exact kI0 t1 | exact kI0 t2 | exact kI0 u0 | exact kI0 u1 | exact kI0 u2 | refine kCd ?_ | refine kId ?_ | refine kFd ?_ | refine kCs (by simp only [ne_eq]; omega) ?_ | refine kIs ?_ | refine kFs ?_ | refine kCb (by assumption) ?_ | refine kIb (by assumption) ?_))
    (first
      | (go_at_call 26; with_reducible refine (C1.out _ (by repeat (with_reducible first | assumption | exact Below.refl _ _ | refine Below.drew ?_ | refine kBb (by assumption) ?_))).mono ?_; rintro e v5 ⟨z5, c5, rfl, hb5, H5⟩; have Tt : Ob v5 (w.heap.size + 1) := (by repeat (with_reducible first | exact OB.out | exact Tt | exact Tu | refine Ob.drew ?_ | refine kOb (by assumption) ?_)); obtain ⟨_, t0, t1, t2, tf⟩ := id Tt)
      | (go_at_call 26; with_reducible refine (C2.out _ (by repeat (with_reducible first | assumption | exact Below.refl _ _ | refine Below.drew ?_ | refine kBb (by assumption) ?_))).mono ?_; rintro e v6 ⟨z6, c6, rfl, hb6, H6⟩; have Tu : Ob v6 (w.heap.size + 1) := (by repeat (with_reducible first | exact OB.out | exact Tt | exact Tu | refine Ob.drew ?_ | refine kOb (by assumption) ?_)); obtain ⟨_, u0, u1, u2, uf⟩ := id Tu))
  all_goals
    have D5 : Rd .u64 v6 z5 n f := (by repeat (with_reducible first | exact H5.out.1 | refine Rd.drew ?_ | refine kRdb (by assumption) ?_))
    have hb : Below w1.heap.size w1 v6 := (by repeat (with_reducible first | assumption | exact Below.refl _ _ | refine Below.drew ?_ | refine kBb (by assumption) ?_))
    go_wp2
    exact bodyPost_ret (v := .agg #[.bool s, .slice z5 n c5, .slice z6 m c6]) (by simp [results, Tryz.results7, go_sem, u0, u1, u2]) rfl ⟨z5, c5, z6, c6, rfl, below_st (HW.out.trans (hb.mono HW.out.size)) (by omega), Tu.rd D5, HN.out.lx, H5.out.2.1, H5.out.2.2, Tu.rd H6.out.1, HN.out.ly, H6.out.2.1, H6.out.2.2⟩

/-- The same digits elsewhere. -/
theorem Rn.moved {L w s x n c f y m d g q w' z c' z2 c2} (h : Rn L w s x n c f y m d g q) (k : Rw w' z n c' f z2 m c2 g) : Rn L w' s z n c' f z2 m c2 g q :=
  ⟨⟨k.rx, k.lx, h.num.wf, k.cx, k.nx, h.num.val⟩, ⟨k.ry, k.ly, h.den.wf, k.cy, k.ny, h.den.val⟩, h.ln, h.ld⟩

end Go.Proofs.YtlpmfmphglgocaaGreatDoor
namespace Go.Proofs.YtlpmfmphglgocaaGreatDoor
open Go.RowKit

end Go.Proofs.YtlpmfmphglgocaaGreatDoor
namespace Go.Proofs.YtlpmfmphglgocaaGreatDoor
open Go.RowKit

end Go.Proofs.YtlpmfmphglgocaaGreatDoor
namespace Go.Proofs.YtlpmfmphglgocaaGreatDoor
open Go.RowKit

end Go.Proofs.YtlpmfmphglgocaaGreatDoor
namespace Go.Proofs.YtlpmfmphglgocaaGreatDoor
open Go.RowKit

end Go.Proofs.YtlpmfmphglgocaaGreatDoor
namespace Go.Proofs.YtlpmfmphglgocaaGreatDoor
open Go.RowKit

end Go.Proofs.YtlpmfmphglgocaaGreatDoor
namespace Go.Proofs.YtlpmfmphglgocaaGreatDoor
open Go.RowKit

/-- A list in memory: where it lies, its length, its room, its numbers. -/
structure Ls where
  p : Option Addr
  n : Nat
  c : Nat
  f : Nat → Int
/-- The list lies in a block of its own. -/
def Lsb (k : IntKind) (e : TypeId) (w : World) (l : Ls) : Prop := Own k e w 0 (.slice l.p l.n l.c) l.n l.f
def updL (L : Nat → Ls) (i : Nat) (l : Ls) : Nat → Ls := fun j => if j = i then l else L j
theorem updL_same (L : Nat → Ls) (i : Nat) (l : Ls) : updL L i l i = l := by simp [updL]
theorem updL_other (L : Nat → Ls) (i : Nat) (l : Ls) (j : Nat) (h : j ≠ i) : updL L i l j = L j := by simp [updL, h]
theorem own_at {k e w base a n c f} (h : Own k e w base (.slice (some a) n c) n f) : ∃ g, a = ⟨g, 0, none⟩ ∧ g < w.heap.size := by
  obtain ⟨h1, h2⟩ := h
  rcases h2 with ⟨h3, h4⟩ | ⟨g, cap', cur, hv, hb', hg, hn, hm, hs, ht⟩
  · cases h3
  · cases hv
    exact ⟨g, rfl, (Array.getElem?_eq_some_iff.1 hg).1⟩
theorem own_set {k e w base g n c f} (h : Own k e w base (.slice (some ⟨g, 0, none⟩) n c) n f) {j : Nat} (hj : j < n) (x : Int) : Own k e (w.setCell ⟨g, j, none⟩ (.int k x)) base (.slice (some ⟨g, 0, none⟩) n c) n (upd f j x) := by
  obtain ⟨h1, h2⟩ := h
  refine ⟨by rw [lst_length]; omega, ?_⟩
  rcases h2 with ⟨h3, h4⟩ | ⟨g, cap', cur, hv, hb', hg, hn, hm, hs, ht⟩
  · cases h3
  · cases hv
    refine .inr ⟨g, c, cur.setIfInBounds j (.int k x), rfl, hb', ?_, hn, hm, by simpa using hs, ?_⟩
    · simp [World.setCell, Array.getElem?_modify, hg]
    · apply List.ext_getElem?
      intro i
      by_cases hi : i < n
      · rw [List.getElem?_take, if_pos (by omega), lst_get _ _ _ _ hi]
        have e1 : cur.toList[i]? = some (.int k (f i)) := by
          have : (cur.toList.take (n * 1))[i]? = (lst k f n)[i]? := by rw [ht]
          rw [lst_get _ _ _ _ hi, List.getElem?_take, if_pos (by omega)] at this
          exact this
        by_cases hij : i = j
        · subst hij
          have hl : i < cur.size := by rw [hs]; omega
          simp [upd, hl]
        · simp only [Array.toList_setIfInBounds, List.getElem?_set, upd, hij]
          rw [if_neg (by omega), e1]; simp
      · rw [List.getElem?_eq_none (by simp; omega), List.getElem?_eq_none (by rw [lst_length]; omega)]

end Go.Proofs.YtlpmfmphglgocaaGreatDoor
namespace Go.Proofs.YtlpmfmphglgocaaGreatDoor
open Go.RowKit

theorem Turned.set' {lo hi : Nat} {a w : World} (h : Turned lo hi a w) {x : Addr} (h1 : lo ≤ x.block ∧ x.block < hi ∨ a.heap.size ≤ x.block) (u : Value) : Turned lo hi a (w.setCell x u) :=
  ⟨h.os, h.tape, h.output, by simpa [World.setCell] using h.size, fun k hk hn => (Below.heap_setCell _ _ _ _ (by omega)).trans (h.block k hk hn)⟩
theorem Turned.grown {lo hi : Nat} {a w w' : World} (h : Turned lo hi a w) {row : Option Nat} (hg : w.grownBy w' row) (h1 : ∀ g, row = some g → lo ≤ g ∧ g < hi ∨ a.heap.size ≤ g) : Turned lo hi a w' :=
  ⟨hg.os.trans h.os, hg.tape.trans h.tape, hg.output.trans h.output, Nat.le_trans h.size hg.size, fun k hk hn => (hg.block k (Nat.lt_of_lt_of_le hk h.size) (fun e => by have := h1 k e.symm; omega)).trans (h.block k hk hn)⟩
theorem Turned.drewN {lo hi : Nat} {a w : World} (h : Turned lo hi a w) (q : Nat) : Turned lo hi a (w.drewN q) := ⟨h.os, h.tape, h.output, h.size, h.block⟩
theorem Turned.bel {lo hi : Nat} {a w : World} (h : Turned lo hi a w) {B : Nat} (hB : B ≤ lo) (hs : B ≤ a.heap.size) : Below B a w := ⟨h.os, h.tape, h.output, h.size, fun k hk => h.block k (by omega) (.inl (by omega))⟩
theorem Lsb.of {k e w w' l} (h : Lsb k e w l) (hh : ∀ a, l.p = some a → w'.heap[a.block]? = w.heap[a.block]?) : Lsb k e w' l := Own.of h hh
theorem Lsb.rd {k e w l} (h : Lsb k e w l) : Rd k w l.p l.n l.f := (Own.slice h).2.2.2.1
theorem Lsb.lt {k e w l} (h : Lsb k e w l) : ∀ a, l.p = some a → a.block < w.heap.size := fun a ha => ((Own.slice h).2.2.2.2 a ha).2
theorem Lsb.alloc {k e w l} (h : Lsb k e w l) (o : Obj) : Lsb k e (w.alloc o) l := Own.alloc h o
end Go.Proofs.YtlpmfmphglgocaaGreatDoor
namespace Go.Proofs.YtlpmfmphglgocaaGreatDoor
open Go.RowKit

/-- Block g is a row of structs: at the places pos the N lists, elsewhere what O tells. -/
def FamP (e : TypeId) (w : World) (g N : Nat) (pos : Nat → Nat) (O : Nat → Option Value) (L : Nat → Ls) : Prop :=
  ∃ arr : Array Value, w.heap[g]? = some (.cells arr e (0, 0)) ∧ (∀ j, j < N → arr[pos j]? = some (.slice (L j).p (L j).n (L j).c)) ∧ ∀ t, (∀ j, j < N → pos j ≠ t) → arr[t]? = O t
theorem FamP.cell {e w g N pos O L} (h : FamP e w g N pos O L) {j : Nat} (hj : j < N) : w.cell? ⟨g, pos j, none⟩ = some (.slice (L j).p (L j).n (L j).c) := by
  obtain ⟨arr, h1, h2, h3⟩ := h
  simp [World.cell?, h1, h2 j hj]
theorem FamP.other {e w g N pos O L} (h : FamP e w g N pos O L) {t : Nat} (ht : ∀ j, j < N → pos j ≠ t) : w.cell? ⟨g, t, none⟩ = O t := by
  obtain ⟨arr, h1, h2, h3⟩ := h
  simp [World.cell?, h1, h3 t ht]
theorem FamP.frozen {e w g N pos O L} (h : FamP e w g N pos O L) (j : Nat) : w.frozen? ⟨g, j, none⟩ = false := by
  obtain ⟨arr, h1, h2, h3⟩ := h
  simp [World.frozen?, h1]
theorem FamP.lt {e w g N pos O L} (h : FamP e w g N pos O L) : g < w.heap.size := by
  obtain ⟨arr, h1, h2, h3⟩ := h
  exact (Array.getElem?_eq_some_iff.1 h1).1
theorem FamP.of {e w w' g N pos O L} (h : FamP e w g N pos O L) (he : w'.heap[g]? = w.heap[g]?) : FamP e w' g N pos O L := by
  obtain ⟨arr, h1, h2, h3⟩ := h
  exact ⟨arr, he.trans h1, h2, h3⟩
theorem FamP.alloc {e w g N pos O L} (h : FamP e w g N pos O L) (o : Obj) : FamP e (w.alloc o) g N pos O L := h.of (Below.heap_alloc _ _ _ h.lt)
theorem FamP.set {e w g N pos O L} (h : FamP e w g N pos O L) (hp : ∀ i j, i < N → j < N → pos i = pos j → i = j) {i : Nat} (hi : i < N) (l : Ls) : FamP e (w.setCell ⟨g, pos i, none⟩ (.slice l.p l.n l.c)) g N pos O (updL L i l) := by
  obtain ⟨arr, h1, h2, h3⟩ := h
  refine ⟨arr.setIfInBounds (pos i) (.slice l.p l.n l.c), ?_, fun j hj => ?_, fun t ht => ?_⟩
  · simp [World.setCell, Array.getElem?_modify, h1]
  · have hlt : pos i < arr.size := (Array.getElem?_eq_some_iff.1 (h2 i hi)).1
    by_cases hji : j = i
    · subst hji; rw [updL_same]; simp [hlt]
    · rw [Array.getElem?_setIfInBounds, if_neg (fun e => hji (hp i j hi hj e).symm), h2 j hj, updL_other _ _ _ _ hji]
  · rw [Array.getElem?_setIfInBounds, if_neg (ht i hi), h3 t ht]
theorem FamP.congr {e w g N pos O L L'} (h : FamP e w g N pos O L) (he : ∀ j, j < N → (L j).p = (L' j).p ∧ (L j).n = (L' j).n ∧ (L j).c = (L' j).c) : FamP e w g N pos O L' := by
  obtain ⟨arr, h1, h2, h3⟩ := h
  exact ⟨arr, h1, fun j hj => by rw [h2 j hj, (he j hj).1, (he j hj).2.1, (he j hj).2.2], h3⟩

end Go.Proofs.YtlpmfmphglgocaaGreatDoor
namespace Go.Proofs.YtlpmfmphglgocaaGreatDoor
open Go.RowKit

end Go.Proofs.YtlpmfmphglgocaaGreatDoor
namespace Go.Proofs.YtlpmfmphglgocaaGreatDoor
open Go.RowKit

/-- What a call answers is its own. -/
def Of2 (w w' : World) (x : Option Addr) (n c : Nat) (f : Nat → Int) (y : Option Addr) (m d : Nat) (g : Nat → Int) : Prop := Own .u64 28 w' w.heap.size (.slice x n c) n f ∧ Own .u64 28 w' w.heap.size (.slice y m d) m g ∧ Apart x y
theorem of2_nil (w w' : World) : Of2 w w' none 0 0 (fun _ => 0) none 0 0 (fun _ => 0) := ⟨own_nil _ _ _ _ _, own_nil _ _ _ _ _, apart_none _⟩
structure RvQ (s : Bool) (l k : Ls) (v : Option Rat) : Prop where
  lm : Lm l.f l.n ∧ Lm k.f k.n
  le : l.n ≤ 2000 ∧ k.n ≤ 2000
  no : v = none → s = false ∧ l.n = 0 ∧ k.n = 0
  some' : ∀ q, v = some q → (wfB s l.f l.n = true ∧ wv s l.f l.n = q.num) ∧ wfB false k.f k.n = true ∧ wv false k.f k.n = (q.den : Int)
theorem lm_z {f : Nat → Int} {n : Nat} (h : n = 0) : Lm f n := fun j hj => by omega
theorem Rn.rvq {L w s x n c f y m d g q} (h : Rn L w s x n c f y m d g q) (hL : L ≤ 2000) : RvQ s ⟨x, n, c, f⟩ ⟨y, m, d, g⟩ (some q) :=
  ⟨⟨h.num.lm, h.den.lm⟩, ⟨Nat.le_trans h.ln hL, Nat.le_trans h.ld hL⟩, fun e => (by cases e), fun q' e => by cases e; exact ⟨⟨h.num.wf, h.num.val⟩, h.den.wf, h.den.val⟩⟩
/-- The first k answers, each with its two lists in blocks of their own. -/
structure Up (k : Nat) (w0 w : World) (S : Nat → Bool) (L : Nat → Ls) (V : Nat → Option Rat) : Prop where
  own : ∀ j, j < 2 * k → Lsb .u64 28 w (L j)
  dis : ∀ i j, i < 2 * k → j < 2 * k → i ≠ j → Apart (L i).p (L j).p
  loc : ∀ j, j < 2 * k → ∀ a, (L j).p = some a → w0.heap.size ≤ a.block
  val : ∀ j, j < k → RvQ (S j) (L (2 * j)) (L (2 * j + 1)) (V j)
def updB (S : Nat → Bool) (i : Nat) (b : Bool) : Nat → Bool := fun j => if j = i then b else S j
theorem Up.nil (w0 w : World) (S : Nat → Bool) (L : Nat → Ls) (V : Nat → Option Rat) : Up 0 w0 w S L V := ⟨fun j h => by omega, fun i j h => by omega, fun j h => by omega, fun j h => by omega⟩
theorem Up.later {k w0 w w' S L V} (h : Up k w0 w S L V) (hb : Below w.heap.size w w') : Up k w0 w' S L V := ⟨fun j hj => Own.below (h.own j hj) hb, h.dis, h.loc, h.val⟩
theorem Up.add {k w0 w w' S L V s x n c f y m d g} (h : Up k w0 w S L V) (h0 : w0.heap.size ≤ w.heap.size) (hb : Below w.heap.size w w') (ho : Of2 w w' x n c f y m d g) (hv : RvQ s ⟨x, n, c, f⟩ ⟨y, m, d, g⟩ (V k)) :
    Up (k + 1) w0 w' (updB S k s) (updL (updL L (2 * k) ⟨x, n, c, f⟩) (2 * k + 1) ⟨y, m, d, g⟩) V := by
  obtain ⟨o1, o2, ap⟩ := ho
  have e1 : updL (updL L (2 * k) ⟨x, n, c, f⟩) (2 * k + 1) ⟨y, m, d, g⟩ (2 * k) = ⟨x, n, c, f⟩ := by rw [updL_other _ _ _ _ (by omega), updL_same]
  have e2 : updL (updL L (2 * k) ⟨x, n, c, f⟩) (2 * k + 1) ⟨y, m, d, g⟩ (2 * k + 1) = ⟨y, m, d, g⟩ := updL_same _ _ _
  have e3 : ∀ j, j < 2 * k → updL (updL L (2 * k) ⟨x, n, c, f⟩) (2 * k + 1) ⟨y, m, d, g⟩ j = L j := fun j hj => by rw [updL_other _ _ _ _ (by omega), updL_other _ _ _ _ (by omega)]
  generalize updL (updL L (2 * k) ⟨x, n, c, f⟩) (2 * k + 1) ⟨y, m, d, g⟩ = M at *
  have sp : ∀ j, j < 2 * (k + 1) → j < 2 * k ∨ j = 2 * k ∨ j = 2 * k + 1 := fun j hj => by omega
  have nw : ∀ i, i < 2 * k → Apart (M i).p x ∧ Apart (M i).p y := fun i hi => by
    rw [e3 i hi]
    exact ⟨fun p q hp hq => by have a1 := (h.own i hi).lt p hp; have a2 := (o1.slice.2.2.2.2 q hq).1; omega, fun p q hp hq => by have a1 := (h.own i hi).lt p hp; have a2 := (o2.slice.2.2.2.2 q hq).1; omega⟩
  refine ⟨fun j hj => ?_, fun i j hi hj hij => ?_, fun j hj a ha => ?_, fun j hj => ?_⟩
  · rcases sp j hj with h1 | rfl | rfl
    · rw [e3 j h1]; exact Own.below (h.own j h1) hb
    · rw [e1]; exact Own.base o1 (Nat.zero_le _)
    · rw [e2]; exact Own.base o2 (Nat.zero_le _)
  · rcases sp i hi with h1 | rfl | rfl
    · rcases sp j hj with h2 | rfl | rfl
      · rw [e3 i h1, e3 j h2]; exact h.dis i j h1 h2 hij
      · rw [e1]; exact (nw i h1).1
      · rw [e2]; exact (nw i h1).2
    · rcases sp j hj with h2 | rfl | rfl
      · rw [e1]; exact (nw j h2).1.symm
      · exact absurd rfl hij
      · rw [e1, e2]; exact ap
    · rcases sp j hj with h2 | rfl | rfl
      · rw [e2]; exact (nw j h2).2.symm
      · rw [e1, e2]; exact ap.symm
      · exact absurd rfl hij
  · rcases sp j hj with h1 | rfl | rfl
    · rw [e3 j h1] at ha; exact h.loc j h1 a ha
    · rw [e1] at ha; exact Nat.le_trans h0 (o1.slice.2.2.2.2 a ha).1
    · rw [e2] at ha; exact Nat.le_trans h0 (o2.slice.2.2.2.2 a ha).1
  · unfold updB
    by_cases hjk : j = k
    · subst hjk; rw [if_pos rfl, e1, e2]; exact hv
    · rw [if_neg hjk, e3 _ (by omega), e3 _ (by omega)]; exact h.val j (by omega)
end Go.Proofs.YtlpmfmphglgocaaGreatDoor
namespace Go.Proofs.YtlpmfmphglgocaaGreatDoor
open Go.RowKit

/-- A box of four cells. -/
structure Bx4 (w : World) (B : Nat) (a0 a1 a2 a3 : Value) : Prop where
  z : B < w.heap.size
  x0 : w.cell? ⟨B, 0, none⟩ = some a0
  x1 : w.cell? ⟨B, 1, none⟩ = some a1
  x2 : w.cell? ⟨B, 2, none⟩ = some a2
  x3 : w.cell? ⟨B, 3, none⟩ = some a3
theorem Bx4.below {w w' B a0 a1 a2 a3} (h : Bx4 w B a0 a1 a2 a3) (hb : Below w.heap.size w w') : Bx4 w' B a0 a1 a2 a3 := ⟨Nat.lt_of_lt_of_le h.z hb.size, kCb hb h.x0, kCb hb h.x1, kCb hb h.x2, kCb hb h.x3⟩
theorem Bx4.alloc {w B a0 a1 a2 a3} (h : Bx4 w B a0 a1 a2 a3) (o : Obj) : Bx4 (w.alloc o) B a0 a1 a2 a3 := h.below (below_alloc (Below.refl _ _) o)
theorem Bx4.next {w w' B a0 a1 a2 a3} {o : Obj} (h : Bx4 w B a0 a1 a2 a3) (hb : Below (w.alloc o).heap.size (w.alloc o) w') : Bx4 w' B a0 a1 a2 a3 := (h.alloc o).below hb
theorem bx4_at (w : World) (a0 a1 a2 a3 : Value) (t : TypeId) : Bx4 (w.alloc (.cells #[a0, a1, a2, a3] t)) w.heap.size a0 a1 a2 a3 := ⟨by simp, by simp [go_sem], by simp [go_sem], by simp [go_sem], by simp [go_sem]⟩
/-- A new box for an answer of four cells. -/
structure Ob4 (w : World) (B : Nat) : Prop where
  z : B < w.heap.size
  z0 : w.cell? ⟨B, 0, none⟩ = some (.int .i64 0)
  z1 : w.cell? ⟨B, 1, none⟩ = some (.bool false)
  z2 : w.cell? ⟨B, 2, none⟩ = some (.slice none 0 0)
  z3 : w.cell? ⟨B, 3, none⟩ = some (.slice none 0 0)
  zf : ∀ o, w.frozen? ⟨B, o, none⟩ = false
theorem Ob4.below {w w' B} (h : Ob4 w B) (hb : Below w.heap.size w w') : Ob4 w' B := by
  obtain ⟨h1, h2⟩ := bcell hb
  exact ⟨Nat.lt_of_lt_of_le h.z hb.size, kCb hb h.z0, kCb hb h.z1, kCb hb h.z2, kCb hb h.z3, fun o => (h2 _ _ h.z).trans (h.zf o)⟩
theorem kO4b {w w' B} (hb : Below w.heap.size w w') (h : Ob4 w B) : Ob4 w' B := h.below hb
theorem Ob4.alloc {w B} (h : Ob4 w B) (o : Obj) : Ob4 (w.alloc o) B := h.below (below_alloc (Below.refl _ _) o)
theorem Ob4.next {w w' B} {o : Obj} (h : Ob4 w B) (hb : Below (w.alloc o).heap.size (w.alloc o) w') : Ob4 w' B := (h.alloc o).below hb
theorem Ob4.drew {w B} (h : Ob4 w B) : Ob4 w.drew B := ⟨h.z, h.z0, h.z1, h.z2, h.z3, h.zf⟩
theorem ob4_new (w : World) (t : TypeId) : Ob4 (w.alloc (.cells #[.int .i64 0, .bool false, .slice none 0 0, .slice none 0 0] t)) w.heap.size := by
  refine ⟨by simp, by simp [go_sem], by simp [go_sem], by simp [go_sem], by simp [go_sem], fun o => ?_⟩
  have e := heap_alloc_new w (.cells #[.int .i64 0, .bool false, .slice none 0 0, .slice none 0 0] t)
  simp only [World.frozen?, e]; simp
/-- The world behind the store of a bound. -/
def st4 (w : World) (B : Nat) (u0 u1 u2 u3 : Value) : World := (((w.setCell ⟨B, 0, none⟩ u0).setCell ⟨B, 1, none⟩ u1).setCell ⟨B, 2, none⟩ u2).setCell ⟨B, 3, none⟩ u3
theorem Ob4.rd {w B u0 u1 u2 u3 x n f} (h : Ob4 w B) (hx : Rd .u64 w x n f) : Rd .u64 ((((w.setCell ⟨B, 0, none⟩ u0).setCell ⟨B, 1, none⟩ u1).setCell ⟨B, 2, none⟩ u2).setCell ⟨B, 3, none⟩ u3) x n f :=
  rd_setne (cell_off (by decide) (cell_off (by decide) (cell_off (by decide) h.z3))) (fun i h => by cases h) (rd_setne (cell_off (by decide) (cell_off (by decide) h.z2)) (fun i h => by cases h) (rd_setne (cell_off (by decide) h.z1) (fun i h => by cases h) (rd_setne h.z0 (fun i h => by cases h) hx)))
theorem Ob4.wn {w B u0 u1 u2 u3 s x n c f v} (h : Ob4 w B) (hx : Wn w s x n c f v) : Wn ((((w.setCell ⟨B, 0, none⟩ u0).setCell ⟨B, 1, none⟩ u1).setCell ⟨B, 2, none⟩ u2).setCell ⟨B, 3, none⟩ u3) s x n c f v := ⟨h.rd hx.rd, hx.lm, hx.wf, hx.cap, hx.nil, hx.val⟩
theorem Ob4.dn {w B u0 u1 u2 u3 x n d V} (h : Ob4 w B) (hx : Dn w x n d V) : Dn ((((w.setCell ⟨B, 0, none⟩ u0).setCell ⟨B, 1, none⟩ u1).setCell ⟨B, 2, none⟩ u2).setCell ⟨B, 3, none⟩ u3) x n d V := ⟨h.rd hx.rd, hx.dg, hx.fm, hx.val⟩
theorem Ob4.rn {w B u0 u1 u2 u3 L s x n c f y m d g q} (h : Ob4 w B) (hx : Rn L w s x n c f y m d g q) : Rn L ((((w.setCell ⟨B, 0, none⟩ u0).setCell ⟨B, 1, none⟩ u1).setCell ⟨B, 2, none⟩ u2).setCell ⟨B, 3, none⟩ u3) s x n c f y m d g q := ⟨h.wn hx.num, h.wn hx.den, hx.ln, hx.ld⟩
theorem Ob4.rw {w B u0 u1 u2 u3 x n c f y m d g} (h : Ob4 w B) (hx : Rw w x n c f y m d g) : Rw ((((w.setCell ⟨B, 0, none⟩ u0).setCell ⟨B, 1, none⟩ u1).setCell ⟨B, 2, none⟩ u2).setCell ⟨B, 3, none⟩ u3) x n c f y m d g := ⟨h.rd hx.rx, hx.lx, hx.cx, hx.nx, h.rd hx.ry, hx.ly, hx.cy, hx.ny⟩
theorem Ob4.zn {w B u0 u1 u2 u3 s x n d v} (h : Ob4 w B) (hx : Zn w s x n d v) : Zn ((((w.setCell ⟨B, 0, none⟩ u0).setCell ⟨B, 1, none⟩ u1).setCell ⟨B, 2, none⟩ u2).setCell ⟨B, 3, none⟩ u3) s x n d v := ⟨h.dn hx.dn, hx.sgn, hx.pos⟩
theorem Ob4.qn {w B u0 u1 u2 u3 s x n d y m g q} (h : Ob4 w B) (hx : Qn w s x n d y m g q) : Qn ((((w.setCell ⟨B, 0, none⟩ u0).setCell ⟨B, 1, none⟩ u1).setCell ⟨B, 2, none⟩ u2).setCell ⟨B, 3, none⟩ u3) s x n d y m g q := ⟨h.zn hx.num, h.dn hx.den⟩
theorem below_st4 {w0 w : World} {B : Nat} {u0 u1 u2 u3 : Value} (hw : Below w0.heap.size w0 w) (hB : w0.heap.size ≤ B) :
    Below w0.heap.size w0 ((((w.setCell ⟨B, 0, none⟩ u0).setCell ⟨B, 1, none⟩ u1).setCell ⟨B, 2, none⟩ u2).setCell ⟨B, 3, none⟩ u3) :=
  below_turned hw hw.size (((((Turned.refl w0.heap.size (B + 1) w).set (x := ⟨B, 0, none⟩) hB (by simp) _).set (x := ⟨B, 1, none⟩) hB (by simp) _).set (x := ⟨B, 2, none⟩) hB (by simp) _).set (x := ⟨B, 3, none⟩) hB (by simp) _) (Nat.le_refl _)

theorem kRnd {L w s x n c f y m d g q} (h : Rn L w s x n c f y m d g q) : Rn L w.drew s x n c f y m d g q := ⟨kWd h.num, kWd h.den, h.ln, h.ld⟩
end Go.Proofs.YtlpmfmphglgocaaGreatDoor
namespace Go.Proofs.YtlpmfmphglgocaaGreatDoor
open Go.RowKit

/-- Is a bound in form? -/
def efB (i : Int) (s : Bool) (f : Nat → Int) (n : Nat) (g : Nat → Int) (m : Nat) : Bool := rfB s f n g m && (decide (i = 0) || ((decide (i = -1) || decide (i = 1)) && decide (n = 0)))
/-- A bound in form that can be read: its Inf and its number (0 beside an infinity). -/
structure En (L : Nat) (w : World) (i : Int) (s : Bool) (x : Option Addr) (n c : Nat) (f : Nat → Int) (y : Option Addr) (m d : Nat) (g : Nat → Int) (q : Rat) : Prop where
  rn : Rn L w s x n c f y m d g q
  inf : i = 0 ∨ (i = -1 ∨ i = 1) ∧ q = 0
theorem En.below {L w w' i s x n c f y m d g q} (h : En L w i s x n c f y m d g q) (hb : Below w.heap.size w w') : En L w' i s x n c f y m d g q := ⟨h.rn.below hb, h.inf⟩
theorem En.alloc {L w i s x n c f y m d g q} (h : En L w i s x n c f y m d g q) (o : Obj) : En L (w.alloc o) i s x n c f y m d g q := ⟨h.rn.alloc o, h.inf⟩
theorem kEnd {L w i s x n c f y m d g q} (h : En L w i s x n c f y m d g q) : En L w.drew i s x n c f y m d g q := ⟨kRnd h.rn, h.inf⟩
theorem kEnb {L w w' i s x n c f y m d g q} (hb : Below w.heap.size w w') (h : En L w i s x n c f y m d g q) : En L w' i s x n c f y m d g q := h.below hb
theorem En.mono {L L' w i s x n c f y m d g q} (h : En L w i s x n c f y m d g q) (hL : L ≤ L') : En L' w i s x n c f y m d g q := ⟨h.rn.mono hL, h.inf⟩
theorem En.moved {L w i s x n c f y m d g q w' z c' z2 c2} (h : En L w i s x n c f y m d g q) (k : Rw w' z n c' f z2 m c2 g) : En L w' i s z n c' f z2 m c2 g q := ⟨h.rn.moved k, h.inf⟩
theorem Rn.q_zero {L w s x n c f y m d g q} (h : Rn L w s x n c f y m d g q) : q = 0 ↔ n = 0 := by
  rw [← h.num_zero]
  constructor
  · intro e; rw [e]; rfl
  · exact fun e => Rat.num_eq_zero.1 e
theorem Rw.en {w i s x n c f y m d g L} (h : Rw w x n c f y m d g) (hf : efB i s f n g m = true) (hn : n ≤ L) (hm : m ≤ L) : ∃ q, En L w i s x n c f y m d g q := by
  simp only [efB, Bool.and_eq_true, Bool.or_eq_true, decide_eq_true_eq] at hf
  obtain ⟨q, hq⟩ := h.rn hf.1 hn hm
  refine ⟨q, hq, ?_⟩
  rcases hf.2 with h1 | ⟨h1, h2⟩
  · exact .inl h1
  · exact .inr ⟨h1, hq.q_zero.2 h2⟩
theorem En.ef {L w i s x n c f y m d g q} (h : En L w i s x n c f y m d g q) : efB i s f n g m = true := by
  simp only [efB, Bool.and_eq_true, Bool.or_eq_true, decide_eq_true_eq]
  refine ⟨h.rn.rf, ?_⟩
  rcases h.inf with h1 | ⟨h1, h2⟩
  · exact .inl h1
  · exact .inr ⟨h1, h.rn.q_zero.1 h2⟩
/-- The order of bounds. -/
def EOrd (c : Int) (i : Int) (a : Rat) (j : Int) (b : Rat) : Prop := (c = -1 ∧ (i < j ∨ i = j ∧ a < b)) ∨ (c = 0 ∧ i = j ∧ a = b) ∨ (c = 1 ∧ (j < i ∨ i = j ∧ b < a))
end Go.Proofs.YtlpmfmphglgocaaGreatDoor
namespace Go.Proofs.YtlpmfmphglgocaaGreatDoor
open Go.RowKit

theorem eIsZero_c {w : World} {s : Bool} {x : Option Addr} {n c : Nat} {y : Option Addr} {m d : Nat} :
    Calls Tryz.prog 73 #[.agg #[.bool s, .slice x n c, .slice y m d]] w fun e w' => e = .returned (.bool (decide (n = 0))) ∧ Below w.heap.size w w' := by
  have key : ∀ o : Obj, Below w.heap.size w (w.alloc o) := fun o => below_alloc (Below.refl w.heap.size w) o
  have KEY := hid key
  clear key
  by_cases hn : n = 0
  · have h1 : ((n : Int) == 0) = true := by simp; omega
    rw [decide_eq_true hn]
    clear hn
    go_enter Tryz.func73, Tryz.ntmps73
    go_wp2
    go_ret
    exact ⟨rfl, KEY.out _⟩
  · have h1 : ((n : Int) == 0) = false := by simp; omega
    rw [decide_eq_false hn]
    clear hn
    go_enter Tryz.func73, Tryz.ntmps73
    go_wp2
    go_ret
    exact ⟨rfl, KEY.out _⟩

set_option maxRecDepth 100000 in
set_option maxHeartbeats 4000000 in
theorem eForm_b {w : World} {i : Int} {s : Bool} {x : Option Addr} {n c : Nat} {f : Nat → Int} {y : Option Addr} {m d : Nat} {g : Nat → Int} (h : Rw w x n c f y m d g) (hn : n ≤ 65536) (hm : m ≤ 65536) :
    Calls Tryz.prog 44 #[.agg #[.int .i64 i, .bool s, .slice x n c, .slice y m d]] w fun e w' => e = .returned (.bool (efB i s f n g m)) ∧ Below w.heap.size w w' := by
  have HR := hid (h.alloc (.cells #[.int .i64 i, .bool s, .slice x n c, .slice y m d] 33))
  have BX := hid (bx4_at w (.int .i64 i) (.bool s) (.slice x n c) (.slice y m d) 33)
  have HW := hid (below_alloc (Below.refl w.heap.size w) (.cells #[.int .i64 i, .bool s, .slice x n c, .slice y m d] 33))
  have C1 : Hid (∀ W, Below (w.alloc (.cells #[.int .i64 i, .bool s, .slice x n c, .slice y m d] 33)).heap.size (w.alloc (.cells #[.int .i64 i, .bool s, .slice x n c, .slice y m d] 33)) W → Calls Tryz.prog 25 #[.agg #[.bool s, .slice x n c, .slice y m d]] W fun e w' => e = .returned (.bool (rfB s f n g m)) ∧ Below W.heap.size W w') := fun W hW => rForm_c (HR.out.below hW) (by omega) (by omega)
  clear h
  by_cases h0 : i = 0
  · subst h0
    rw [show efB 0 s f n g m = rfB s f n g m by simp [efB]]
    go_enter Tryz.func44, Tryz.ntmps44
    go_upto_region 1 with fail
    generalize w.alloc (.cells #[.int .i64 0, .bool s, .slice x n c, .slice y m d] 33) = w1 at *
    obtain ⟨z, x0, x1, x2, x3⟩ := BX.out
    go_wp2_with fail
    refine (C1.out _ (Below.refl _ _)).mono ?_
    rintro e w2 ⟨rfl, hb⟩
    have HB := hid (HW.out.trans (hb.mono HW.out.size))
    clear hb
    go_wp2
    go_ret
    exact ⟨rfl, HB.out⟩
  have e0 : (i == 0) = false := by simp; exact h0
  by_cases h1 : i = -1 ∨ i = 1
  · have hef : efB i s f n g m = (rfB s f n g m && decide (n = 0)) := by
      rcases h1 with rfl | rfl <;> simp [efB]
    rw [hef]
    clear hef h0
    rcases h1 with rfl | rfl
    all_goals
      cases hr : rfB s f n g m
      · have c1 := C1.out
        rw [hr] at c1
        have C1' := hid c1
        clear c1 C1
        go_enter Tryz.func44, Tryz.ntmps44
        go_upto_region 1 with fail
        generalize w.alloc _ = w1 at *
        obtain ⟨z, x0, x1, x2, x3⟩ := BX.out
        go_wp2_with fail
        refine (C1'.out _ (Below.refl _ _)).mono ?_
        rintro e w2 ⟨rfl, hb⟩
        have HB := hid (HW.out.trans (hb.mono HW.out.size))
        clear hb
        go_wp2
        go_ret
        exact ⟨rfl, HB.out⟩
      · have c1 := C1.out
        rw [hr] at c1
        have C1' := hid c1
        clear c1 C1
        rw [Bool.true_and]
        obtain ⟨p, hp⟩ : ∃ p, decide (n = 0) = p := ⟨_, rfl⟩
        rw [hp]
        have HN0 := hid hp
        clear hp hr
        go_enter Tryz.func44, Tryz.ntmps44
        go_upto_region 1 with fail
        generalize w.alloc _ = w1 at *
        obtain ⟨z, x0, x1, x2, x3⟩ := BX.out
        go_wp2_with fail
        refine (C1'.out _ (Below.refl _ _)).mono ?_
        rintro e w2 ⟨rfl, hb⟩
        have HB := hid (HW.out.trans (hb.mono HW.out.size)); have B2 := hid (BX.out.below hb)
        clear hb z x0 x1 x2 x3
        obtain ⟨z, x0, x1, x2, x3⟩ := B2.out
        go_wp2_with fail
        refine eIsZero_c.mono ?_
        rintro e w3 ⟨rfl, hb⟩
        have HB3 := hid (HB.out.trans (hb.mono HB.out.size))
        clear hb
        rw [HN0.out]
        go_wp2
        go_ret
        exact ⟨rfl, HB3.out⟩
  · have e1 : (i == -1) = false := by simp; omega
    have e2 : (i == 1) = false := by simp; omega
    have hef : efB i s f n g m = false := by
      simp [efB]; omega
    rw [hef]
    clear hef h0 h1
    go_enter Tryz.func44, Tryz.ntmps44
    go_upto_region 1 with fail
    generalize w.alloc (.cells #[.int .i64 i, .bool s, .slice x n c, .slice y m d] 33) = w1 at *
    obtain ⟨z, x0, x1, x2, x3⟩ := BX.out
    go_wp2
    go_ret
    exact ⟨rfl, HW.out⟩
theorem eForm_c {w : World} {i : Int} {s : Bool} {x : Option Addr} {n c : Nat} {f : Nat → Int} {y : Option Addr} {m d : Nat} {g : Nat → Int} (h : Rw w x n c f y m d g) (hn : n ≤ 4096) (hm : m ≤ 4096) :
    Calls Tryz.prog 44 #[.agg #[.int .i64 i, .bool s, .slice x n c, .slice y m d]] w fun e w' => e = .returned (.bool (efB i s f n g m)) ∧ Below w.heap.size w w' :=
  eForm_b h (Nat.le_trans hn (by decide)) (Nat.le_trans hm (by decide))

theorem isNaN_c {w : World} {a : Int} : Calls Tryz.prog 102 #[.int .i64 a] w fun e w' => e = .returned (.bool false) ∧ w' = w := by
  have h1 : (a != a) = false := by simp
  go_enter Tryz.func102, Tryz.ntmps102
  go_wp2
  go_ret
  exact ⟨rfl, rfl⟩
theorem compare_c {w : World} {a b : Int} : Calls Tryz.prog 77 #[.int .i64 a, .int .i64 b] w fun e w' => ∃ r, e = .returned (.int .i64 r) ∧ w' = w ∧ Ord r a b := by
  rcases Int.lt_trichotomy a b with h | h | h
  · have h1 : decide (a < b) = true := decide_eq_true h
    have HF := hid h
    clear h
    go_enter Tryz.func77, Tryz.ntmps77
    go_wp2_with fail
    refine isNaN_c.mono ?_
    rintro e w1 ⟨rfl, rfl⟩
    go_wp2_with fail
    refine isNaN_c.mono ?_
    rintro e w2 ⟨rfl, rfl⟩
    go_wp2
    go_ret
    exact ⟨-1, rfl, rfl, .inl ⟨rfl, HF.out⟩⟩
  · have h1 : decide (a < b) = false := decide_eq_false (by omega)
    have h2 : decide (b < a) = false := decide_eq_false (by omega)
    have HF := hid h
    clear h
    go_enter Tryz.func77, Tryz.ntmps77
    go_wp2_with fail
    refine isNaN_c.mono ?_
    rintro e w1 ⟨rfl, rfl⟩
    go_wp2_with fail
    refine isNaN_c.mono ?_
    rintro e w2 ⟨rfl, rfl⟩
    go_wp2
    go_ret
    exact ⟨0, rfl, rfl, .inr (.inl ⟨rfl, HF.out⟩)⟩
  · have h1 : decide (a < b) = false := decide_eq_false (by omega)
    have h2 : decide (b < a) = true := decide_eq_true h
    have HF := hid h
    clear h
    go_enter Tryz.func77, Tryz.ntmps77
    go_wp2_with fail
    refine isNaN_c.mono ?_
    rintro e w1 ⟨rfl, rfl⟩
    go_wp2_with fail
    refine isNaN_c.mono ?_
    rintro e w2 ⟨rfl, rfl⟩
    go_wp2
    go_ret
    exact ⟨1, rfl, rfl, .inr (.inr ⟨rfl, HF.out⟩)⟩

set_option maxRecDepth 100000 in
set_option maxHeartbeats 4000000 in
theorem eInf_c {w : World} {i : Int} : Calls Tryz.prog 74 #[.int .i64 i] w fun e w' => ∃ s x n c f y m d g, e = .returned (.agg #[.int .i64 i, .bool s, .slice x n c, .slice y m d]) ∧ Below w.heap.size w w' ∧ Rn 4 w' s x n c f y m d g 0 := by
  have h2 := ob4_new w 33
  have h3 := below_alloc (Below.refl w.heap.size w) (.cells #[.int .i64 0, .bool false, .slice none 0 0, .slice none 0 0] 33)
  go_enter Tryz.func74, Tryz.ntmps74
  go_wp2_with fail
  generalize w.alloc (.cells #[.int .i64 0, .bool false, .slice none 0 0, .slice none 0 0] 33) = w1 at *
  have OB := hid h2; have HW := hid h3
  clear h2 h3
  refine (rOf_c (z := 0) (by decide) (by decide)).mono ?_
  rintro e w2 ⟨s2, x2, n2, c2, f2, y2, m2, d2, g2, rfl, hb, hr⟩
  have HB := hid (HW.out.trans (hb.mono HW.out.size)); have OB2 := hid (OB.out.below hb); have RN := hid hr
  clear hb hr
  obtain ⟨hz, z0, z1, z2, z3, zf⟩ := OB2.out
  go_wp2
  exact bodyPost_ret (v := .agg #[.int .i64 i, .bool s2, .slice x2 n2 c2, .slice y2 m2 d2]) (by simp [results, Tryz.results74, go_sem, z0, z1, z2, z3]) rfl ⟨s2, x2, n2, c2, f2, y2, m2, d2, g2, rfl, below_st4 HB.out (Nat.le_refl _), OB2.out.rn RN.out⟩

set_option maxRecDepth 100000 in
set_option maxHeartbeats 4000000 in
theorem eLow_c {w : World} : Calls Tryz.prog 34 #[] w fun e w' => ∃ s x n c f y m d g, e = .returned (.agg #[.int .i64 (-1), .bool s, .slice x n c, .slice y m d]) ∧ Below w.heap.size w w' ∧ En 4 w' (-1) s x n c f y m d g 0 := by
  have h2 := ob4_new w 33
  have h3 := below_alloc (Below.refl w.heap.size w) (.cells #[.int .i64 0, .bool false, .slice none 0 0, .slice none 0 0] 33)
  go_enter Tryz.func34, Tryz.ntmps34
  go_wp2_with fail
  generalize w.alloc (.cells #[.int .i64 0, .bool false, .slice none 0 0, .slice none 0 0] 33) = w1 at *
  have OB := hid h2; have HW := hid h3
  clear h2 h3
  refine eInf_c.mono ?_
  rintro e w2 ⟨s2, x2, n2, c2, f2, y2, m2, d2, g2, rfl, hb, hr⟩
  have HB := hid (HW.out.trans (hb.mono HW.out.size)); have OB2 := hid (OB.out.below hb); have RN := hid hr
  clear hb hr
  obtain ⟨hz, z0, z1, z2, z3, zf⟩ := OB2.out
  go_wp2
  exact bodyPost_ret (v := .agg #[.int .i64 (-1), .bool s2, .slice x2 n2 c2, .slice y2 m2 d2]) (by simp [results, Tryz.results34, go_sem, z0, z1, z2, z3]) rfl ⟨s2, x2, n2, c2, f2, y2, m2, d2, g2, rfl, below_st4 HB.out (Nat.le_refl _), ⟨OB2.out.rn RN.out, .inr ⟨by decide, rfl⟩⟩⟩

set_option maxRecDepth 100000 in
set_option maxHeartbeats 4000000 in
theorem eHigh_c {w : World} : Calls Tryz.prog 39 #[] w fun e w' => ∃ s x n c f y m d g, e = .returned (.agg #[.int .i64 1, .bool s, .slice x n c, .slice y m d]) ∧ Below w.heap.size w w' ∧ En 4 w' 1 s x n c f y m d g 0 := by
  have h2 := ob4_new w 33
  have h3 := below_alloc (Below.refl w.heap.size w) (.cells #[.int .i64 0, .bool false, .slice none 0 0, .slice none 0 0] 33)
  go_enter Tryz.func39, Tryz.ntmps39
  go_wp2_with fail
  generalize w.alloc (.cells #[.int .i64 0, .bool false, .slice none 0 0, .slice none 0 0] 33) = w1 at *
  have OB := hid h2; have HW := hid h3
  clear h2 h3
  refine eInf_c.mono ?_
  rintro e w2 ⟨s2, x2, n2, c2, f2, y2, m2, d2, g2, rfl, hb, hr⟩
  have HB := hid (HW.out.trans (hb.mono HW.out.size)); have OB2 := hid (OB.out.below hb); have RN := hid hr
  clear hb hr
  obtain ⟨hz, z0, z1, z2, z3, zf⟩ := OB2.out
  go_wp2
  exact bodyPost_ret (v := .agg #[.int .i64 1, .bool s2, .slice x2 n2 c2, .slice y2 m2 d2]) (by simp [results, Tryz.results39, go_sem, z0, z1, z2, z3]) rfl ⟨s2, x2, n2, c2, f2, y2, m2, d2, g2, rfl, below_st4 HB.out (Nat.le_refl _), ⟨OB2.out.rn RN.out, .inr ⟨by decide, rfl⟩⟩⟩

set_option maxRecDepth 100000 in
set_option maxHeartbeats 4000000 in
theorem eCopy_c {L : Nat} {w : World} {i : Int} {s : Bool} {x : Option Addr} {n c : Nat} {f : Nat → Int} {y : Option Addr} {m d : Nat} {g : Nat → Int} {q : Rat} (h : En L w i s x n c f y m d g q) (hL : L ≤ 1000) :
    Calls Tryz.prog 80 #[.agg #[.int .i64 i, .bool s, .slice x n c, .slice y m d]] w fun e w' => ∃ s x n c f y m d g, e = .returned (.agg #[.int .i64 i, .bool s, .slice x n c, .slice y m d]) ∧ Below w.heap.size w w' ∧ En L w' i s x n c f y m d g q := by
  have h1 := (bx4_at w (.int .i64 i) (.bool s) (.slice x n c) (.slice y m d) 33).alloc (.cells #[.int .i64 0, .bool false, .slice none 0 0, .slice none 0 0] 33)
  have h2 := ob4_new (w.alloc (.cells #[.int .i64 i, .bool s, .slice x n c, .slice y m d] 33)) 33
  rw [size_alloc1] at h2
  have h3 := below_alloc (below_alloc (Below.refl w.heap.size w) (.cells #[.int .i64 i, .bool s, .slice x n c, .slice y m d] 33)) (.cells #[.int .i64 0, .bool false, .slice none 0 0, .slice none 0 0] 33)
  have h4 := h.below h3
  clear h
  go_enter Tryz.func80, Tryz.ntmps80
  go_wp2_with fail
  generalize (w.alloc (.cells #[.int .i64 i, .bool s, .slice x n c, .slice y m d] 33)).alloc (.cells #[.int .i64 0, .bool false, .slice none 0 0, .slice none 0 0] 33) = w1 at *
  have HN := hid h4; have OB := hid h2; have HW := hid h3
  obtain ⟨z, x0, x1, x2, x3⟩ := h1
  obtain ⟨hz, z0, z1, z2, z3, zf⟩ := h2
  clear h3 h4
  have C1 : Hid (∀ W, Below w1.heap.size w1 W → Calls Tryz.prog 69 #[.agg #[.bool s, .slice x n c, .slice y m d]] W fun e w' => ∃ s x n c f y m d g, e = .returned (.agg #[.bool s, .slice x n c, .slice y m d]) ∧ Below W.heap.size W w' ∧ Hid (Rn L w' s x n c f y m d g q)) := fun W hW => (rCopy_n (HN.out.below hW).rn (by omega)).mono (fun _ _ ⟨x, c, y, d, k1, k2, k3⟩ => ⟨s, x, n, c, f, y, m, d, g, k1, k2, k3⟩)
  go_region_held3 (fun w' => w'.cell? ⟨w.heap.size, 0, none⟩ = some (.int .i64 i) ∧ w'.cell? ⟨w.heap.size, 1, none⟩ = some (.bool s) ∧ w'.cell? ⟨w.heap.size, 2, none⟩ = some (.slice x n c) ∧ w'.cell? ⟨w.heap.size, 3, none⟩ = some (.slice y m d) ∧ (w'.cell? ⟨w.heap.size + 1, 0, none⟩).isSome = true ∧ (w'.cell? ⟨w.heap.size + 1, 1, none⟩).isSome = true ∧ (w'.cell? ⟨w.heap.size + 1, 2, none⟩).isSome = true ∧ (w'.cell? ⟨w.heap.size + 1, 3, none⟩).isSome = true ∧ w'.frozen? ⟨w.heap.size + 1, 0, none⟩ = false ∧ w'.frozen? ⟨w.heap.size + 1, 1, none⟩ = false ∧ w'.frozen? ⟨w.heap.size + 1, 2, none⟩ = false ∧ w'.frozen? ⟨w.heap.size + 1, 3, none⟩ = false)
    (refine ⟨?_, ?_, ?_, ?_, ?_, ?_, ?_, ?_, ?_, ?_, ?_, ?_⟩ <;> repeat (with_reducible first | assumption | exact zf _ | exact tf _ | exact kI0 z0 | exact kI0 z1 | exact kI0 z2 | exact kI0 z3 | exact kI0 t0 | exact kI0 t1 | exact kI0 t2 | exact kI0 t3 | refine kCd ?_ | refine kId ?_ | refine kFd ?_ | refine kCs (by simp only [ne_eq]; omega) ?_ | refine kIs ?_ | refine kFs ?_ | refine kCb (by assumption) ?_ | refine kIb (by assumption) ?_))
    (first | (go_at_call 69; with_reducible refine (C1.out _ (by repeat (with_reducible first | assumption | exact Below.refl _ _ | refine Below.drew ?_ | refine kBb (by assumption) ?_))).mono ?_; rintro e v5 ⟨s5, x5, n5, c5, f5, y5, m5, d5, g5, rfl, hb5, H5⟩; have Tt : Ob4 v5 (w.heap.size + 1) := (by repeat (with_reducible first | exact OB.out | refine Ob4.drew ?_ | refine kO4b (by assumption) ?_)); obtain ⟨_, t0, t1, t2, t3, tf⟩ := id Tt))
  all_goals
    have hb : Below w1.heap.size w1 v5 := (by repeat (with_reducible first | assumption | exact Below.refl _ _ | refine Below.drew ?_ | refine kBb (by assumption) ?_))
    go_wp2
    exact bodyPost_ret (v := .agg #[.int .i64 i, .bool s5, .slice x5 n5 c5, .slice y5 m5 d5]) (by simp [results, Tryz.results80, go_sem, t0, t1, t2, t3]) rfl ⟨s5, x5, n5, c5, f5, y5, m5, d5, g5, rfl, below_st4 (HW.out.trans (hb.mono HW.out.size)) (by omega), ⟨Tt.rn H5.out, HN.out.inf⟩⟩
end Go.Proofs.YtlpmfmphglgocaaGreatDoor
namespace Go.Proofs.YtlpmfmphglgocaaGreatDoor
open Go.RowKit

/-- A bound of the reference. -/
structure Fn (w : World) (i : Int) (s : Bool) (x : Option Addr) (n : Nat) (d : Nat → Int) (y : Option Addr) (m : Nat) (g : Nat → Int) (q : Rat) : Prop where
  qn : Qn w s x n d y m g q
  inf : i = 0 ∨ (i = -1 ∨ i = 1) ∧ q = 0
theorem Fn.below {w w' i s x n d y m g q} (h : Fn w i s x n d y m g q) (hb : Below w.heap.size w w') : Fn w' i s x n d y m g q := ⟨h.qn.below hb, h.inf⟩
theorem kFnd {w i s x n d y m g q} (h : Fn w i s x n d y m g q) : Fn w.drew i s x n d y m g q := ⟨kQd h.qn, h.inf⟩
theorem kFnb {w w' i s x n d y m g q} (hb : Below w.heap.size w w') (h : Fn w i s x n d y m g q) : Fn w' i s x n d y m g q := h.below hb
theorem Fn.alloc {w i s x n d y m g q} (h : Fn w i s x n d y m g q) (o : Obj) : Fn (w.alloc o) i s x n d y m g q := ⟨h.qn.alloc o, h.inf⟩

set_option maxRecDepth 100000 in
set_option maxHeartbeats 4000000 in
theorem xTwin_c {w : World} {i : Int} {s : Bool} {x : Option Addr} {n c : Nat} {f : Nat → Int} {y : Option Addr} {m d : Nat} {g : Nat → Int} (h : Rw w x n c f y m d g) (hn : n ≤ 17592186044416) (hm : m ≤ 17592186044416) :
    Calls Tryz.prog 14 #[.agg #[.int .i64 i, .bool s, .slice x n c, .slice y m d]] w fun e w' => ∃ z c' z2 c2, e = .returned (.agg #[.int .i64 i, .bool s, .slice z n c', .slice z2 m c2]) ∧ Below w.heap.size w w' ∧ Rw w' z n c' f z2 m c2 g := by
  have h1 := (bx4_at w (.int .i64 i) (.bool s) (.slice x n c) (.slice y m d) 33).alloc (.cells #[.int .i64 0, .bool false, .slice none 0 0, .slice none 0 0] 33)
  have h2 := ob4_new (w.alloc (.cells #[.int .i64 i, .bool s, .slice x n c, .slice y m d] 33)) 33
  rw [size_alloc1] at h2
  have h3 := below_alloc (below_alloc (Below.refl w.heap.size w) (.cells #[.int .i64 i, .bool s, .slice x n c, .slice y m d] 33)) (.cells #[.int .i64 0, .bool false, .slice none 0 0, .slice none 0 0] 33)
  have h4 := h.below h3
  clear h
  go_enter Tryz.func14, Tryz.ntmps14
  go_wp2_with fail
  generalize (w.alloc (.cells #[.int .i64 i, .bool s, .slice x n c, .slice y m d] 33)).alloc (.cells #[.int .i64 0, .bool false, .slice none 0 0, .slice none 0 0] 33) = w1 at *
  have HN := hid h4; have OB := hid h2; have HW := hid h3
  obtain ⟨z, x0, x1, x2, x3⟩ := h1
  obtain ⟨hz, z0, z1, z2, z3, zf⟩ := h2
  clear h3 h4
  have C1 : Hid (∀ W, Below w1.heap.size w1 W → Calls Tryz.prog 7 #[.agg #[.bool s, .slice x n c, .slice y m d]] W fun e w' => ∃ z c' z2 c2, e = .returned (.agg #[.bool s, .slice z n c', .slice z2 m c2]) ∧ Below W.heap.size W w' ∧ Hid (Rw w' z n c' f z2 m c2 g)) := fun W hW => qTwin_c (HN.out.below hW) hn hm
  go_region_held3 (fun w' => w'.cell? ⟨w.heap.size, 0, none⟩ = some (.int .i64 i) ∧ w'.cell? ⟨w.heap.size, 1, none⟩ = some (.bool s) ∧ w'.cell? ⟨w.heap.size, 2, none⟩ = some (.slice x n c) ∧ w'.cell? ⟨w.heap.size, 3, none⟩ = some (.slice y m d) ∧ (w'.cell? ⟨w.heap.size + 1, 0, none⟩).isSome = true ∧ (w'.cell? ⟨w.heap.size + 1, 1, none⟩).isSome = true ∧ (w'.cell? ⟨w.heap.size + 1, 2, none⟩).isSome = true ∧ (w'.cell? ⟨w.heap.size + 1, 3, none⟩).isSome = true ∧ w'.frozen? ⟨w.heap.size + 1, 0, none⟩ = false ∧ w'.frozen? ⟨w.heap.size + 1, 1, none⟩ = false ∧ w'.frozen? ⟨w.heap.size + 1, 2, none⟩ = false ∧ w'.frozen? ⟨w.heap.size + 1, 3, none⟩ = false)
    (refine ⟨?_, ?_, ?_, ?_, ?_, ?_, ?_, ?_, ?_, ?_, ?_, ?_⟩ <;> repeat (with_reducible first | assumption | exact zf _ | exact tf _ | exact kI0 z0 | exact kI0 z1 | exact kI0 z2 | exact kI0 z3 | exact kI0 t0 | exact kI0 t1 | exact kI0 t2 | exact kI0 t3 | refine kCd ?_ | refine kId ?_ | refine kFd ?_ | refine kCs (by simp only [ne_eq]; omega) ?_ | refine kIs ?_ | refine kFs ?_ | refine kCb (by assumption) ?_ | refine kIb (by assumption) ?_))
    (first | (go_at_call 7; with_reducible refine (C1.out _ (by repeat (with_reducible first | assumption | exact Below.refl _ _ | refine Below.drew ?_ | refine kBb (by assumption) ?_))).mono ?_; rintro e v5 ⟨z5, c5, y5, d5, rfl, hb5, H5⟩; have Tt : Ob4 v5 (w.heap.size + 1) := (by repeat (with_reducible first | exact OB.out | refine Ob4.drew ?_ | refine kO4b (by assumption) ?_)); obtain ⟨_, t0, t1, t2, t3, tf⟩ := id Tt))
  all_goals
    have hb : Below w1.heap.size w1 v5 := (by repeat (with_reducible first | assumption | exact Below.refl _ _ | refine Below.drew ?_ | refine kBb (by assumption) ?_))
    go_wp2
    exact bodyPost_ret (v := .agg #[.int .i64 i, .bool s, .slice z5 n c5, .slice y5 m d5]) (by simp [results, Tryz.results14, go_sem, t0, t1, t2, t3]) rfl ⟨z5, c5, y5, d5, rfl, below_st4 (HW.out.trans (hb.mono HW.out.size)) (by omega), Tt.rw H5.out⟩

set_option maxRecDepth 100000 in
set_option maxHeartbeats 4000000 in
theorem xTo_c {w : World} {i : Int} {s : Bool} {x : Option Addr} {n c : Nat} {f : Nat → Int} {y : Option Addr} {m d : Nat} {g : Nat → Int} {q : Rat} (h : Fn w i s x n f y m g q) (hn : n ≤ 4096) (hm : m ≤ 4096) :
    Calls Tryz.prog 41 #[.agg #[.int .i64 i, .bool s, .slice x n c, .slice y m d]] w fun e w' => ∃ z k c' f z2 k2 c2 f2, e = .returned (.agg #[.int .i64 i, .bool s, .slice z k c', .slice z2 k2 c2]) ∧ Below w.heap.size w w' ∧ Hid (En (n + m) w' i s z k c' f z2 k2 c2 f2 q) := by
  have h1 := (bx4_at w (.int .i64 i) (.bool s) (.slice x n c) (.slice y m d) 73).alloc (.cells #[.int .i64 0, .bool false, .slice none 0 0, .slice none 0 0] 33)
  have h2 := ob4_new (w.alloc (.cells #[.int .i64 i, .bool s, .slice x n c, .slice y m d] 73)) 33
  rw [size_alloc1] at h2
  have h3 := below_alloc (below_alloc (Below.refl w.heap.size w) (.cells #[.int .i64 i, .bool s, .slice x n c, .slice y m d] 73)) (.cells #[.int .i64 0, .bool false, .slice none 0 0, .slice none 0 0] 33)
  have h4 := h.below h3
  clear h
  go_enter Tryz.func41, Tryz.ntmps41
  go_wp2_with fail
  generalize (w.alloc (.cells #[.int .i64 i, .bool s, .slice x n c, .slice y m d] 73)).alloc (.cells #[.int .i64 0, .bool false, .slice none 0 0, .slice none 0 0] 33) = w1 at *
  have HN := hid h4; have OB := hid h2; have HW := hid h3
  obtain ⟨z, x0, x1, x2, x3⟩ := h1
  obtain ⟨hz, z0, z1, z2, z3, zf⟩ := h2
  clear h3 h4
  have C1 : Hid (∀ W, Below w1.heap.size w1 W → Calls Tryz.prog 75 #[.agg #[.bool s, .slice x n c, .slice y m d]] W fun e w' => ∃ z k c' f z2 k2 c2 f2, e = .returned (.agg #[.bool s, .slice z k c', .slice z2 k2 c2]) ∧ Below W.heap.size W w' ∧ Hid (Rn (n + m) w' s z k c' f z2 k2 c2 f2 q)) := fun W hW => qToR_c (HN.out.below hW).qn (Nat.le_trans hn (by decide)) (Nat.le_trans hm (by decide))
  go_region_held3 (fun w' => w'.cell? ⟨w.heap.size, 0, none⟩ = some (.int .i64 i) ∧ w'.cell? ⟨w.heap.size, 1, none⟩ = some (.bool s) ∧ w'.cell? ⟨w.heap.size, 2, none⟩ = some (.slice x n c) ∧ w'.cell? ⟨w.heap.size, 3, none⟩ = some (.slice y m d) ∧ (w'.cell? ⟨w.heap.size + 1, 0, none⟩).isSome = true ∧ (w'.cell? ⟨w.heap.size + 1, 1, none⟩).isSome = true ∧ (w'.cell? ⟨w.heap.size + 1, 2, none⟩).isSome = true ∧ (w'.cell? ⟨w.heap.size + 1, 3, none⟩).isSome = true ∧ w'.frozen? ⟨w.heap.size + 1, 0, none⟩ = false ∧ w'.frozen? ⟨w.heap.size + 1, 1, none⟩ = false ∧ w'.frozen? ⟨w.heap.size + 1, 2, none⟩ = false ∧ w'.frozen? ⟨w.heap.size + 1, 3, none⟩ = false)
    (refine ⟨?_, ?_, ?_, ?_, ?_, ?_, ?_, ?_, ?_, ?_, ?_, ?_⟩ <;> repeat (with_reducible first | assumption | exact zf _ | exact tf _ | exact kI0 z0 | exact kI0 z1 | exact kI0 z2 | exact kI0 z3 | exact kI0 t0 | exact kI0 t1 | exact kI0 t2 | exact kI0 t3 | refine kCd ?_ | refine kId ?_ | refine kFd ?_ | refine kCs (by simp only [ne_eq]; omega) ?_ | refine kIs ?_ | refine kFs ?_ | refine kCb (by assumption) ?_ | refine kIb (by assumption) ?_))
    (first | (go_at_call 75; with_reducible refine (C1.out _ (by repeat (with_reducible first | assumption | exact Below.refl _ _ | refine Below.drew ?_ | refine kBb (by assumption) ?_))).mono ?_; rintro e v5 ⟨z5, k5, c5, f5, y5, m5, d5, g5, rfl, hb5, H5⟩; have Tt : Ob4 v5 (w.heap.size + 1) := (by repeat (with_reducible first | exact OB.out | refine Ob4.drew ?_ | refine kO4b (by assumption) ?_)); obtain ⟨_, t0, t1, t2, t3, tf⟩ := id Tt))
  all_goals
    have hb : Below w1.heap.size w1 v5 := (by repeat (with_reducible first | assumption | exact Below.refl _ _ | refine Below.drew ?_ | refine kBb (by assumption) ?_))
    go_wp2
    exact bodyPost_ret (v := .agg #[.int .i64 i, .bool s, .slice z5 k5 c5, .slice y5 m5 d5]) (by simp [results, Tryz.results41, go_sem, t0, t1, t2, t3]) rfl ⟨z5, k5, c5, f5, y5, m5, d5, g5, rfl, below_st4 (HW.out.trans (hb.mono HW.out.size)) (by omega), ⟨Tt.rn H5.out, HN.out.inf⟩⟩

set_option maxRecDepth 100000 in
set_option maxHeartbeats 4000000 in
theorem qZero4_c {w : World} : Calls Tryz.prog 81 #[] w fun e w' => ∃ s x n c d y m c' g, e = .returned (.agg #[.bool s, .slice x n c, .slice y m c']) ∧ Below w.heap.size w w' ∧ Hid (n ≤ 2 ∧ m ≤ 2 ∧ Qn w' s x n d y m g 0) := by
  have h2 := ob_new w 71
  have h3 := below_alloc (Below.refl w.heap.size w) (.cells #[.bool false, .slice none 0 0, .slice none 0 0] 71)
  go_enter Tryz.func81, Tryz.ntmps81
  go_wp2_with fail
  generalize w.alloc (.cells #[.bool false, .slice none 0 0, .slice none 0 0] 71) = w1 at *
  have OB := hid h2; have HW := hid h3
  clear h2 h3
  refine (qInt_c (z := 0) (by decide) (by decide)).mono ?_
  rintro e w2 ⟨s2, x2, n2, c2, d2, y2, m2, e2, g2, rfl, hb, hl1, hl2, hq⟩
  have HB := hid (HW.out.trans (hb.mono HW.out.size)); have OB2 := hid (OB.out.below hb); have HQ := hid hq
  clear hb hq
  obtain ⟨hz, z0, z1, z2, zf⟩ := OB2.out
  go_wp2
  exact bodyPost_ret (v := .agg #[.bool s2, .slice x2 n2 c2, .slice y2 m2 e2]) (by simp [results, Tryz.results81, go_sem, z0, z1, z2]) rfl ⟨s2, x2, n2, c2, d2, y2, m2, e2, g2, rfl, below_st HB.out (Nat.le_refl _), hl1, hl2, OB2.out.qn HQ.out⟩

set_option maxRecDepth 100000 in
set_option maxHeartbeats 4000000 in
theorem xLow_c {w : World} : Calls Tryz.prog 42 #[] w fun e w' => ∃ s x n c d y m c' g, e = .returned (.agg #[.int .i64 (-1), .bool s, .slice x n c, .slice y m c']) ∧ Below w.heap.size w w' ∧ Hid (n ≤ 2 ∧ m ≤ 2 ∧ Fn w' (-1) s x n d y m g 0) := by
  have h2 := ob4_new w 73
  have h3 := below_alloc (Below.refl w.heap.size w) (.cells #[.int .i64 0, .bool false, .slice none 0 0, .slice none 0 0] 73)
  go_enter Tryz.func42, Tryz.ntmps42
  go_wp2_with fail
  generalize w.alloc (.cells #[.int .i64 0, .bool false, .slice none 0 0, .slice none 0 0] 73) = w1 at *
  have OB := hid h2; have HW := hid h3
  clear h2 h3
  refine qZero4_c.mono ?_
  rintro e w2 ⟨s2, x2, n2, c2, d2, y2, m2, e2, g2, rfl, hb, H2⟩
  have HB := hid (HW.out.trans (hb.mono HW.out.size)); have OB2 := hid (OB.out.below hb)
  clear hb
  obtain ⟨hz, z0, z1, z2, z3, zf⟩ := OB2.out
  go_wp2
  exact bodyPost_ret (v := .agg #[.int .i64 (-1), .bool s2, .slice x2 n2 c2, .slice y2 m2 e2]) (by simp [results, Tryz.results42, go_sem, z0, z1, z2, z3]) rfl ⟨s2, x2, n2, c2, d2, y2, m2, e2, g2, rfl, below_st4 HB.out (Nat.le_refl _), H2.out.1, H2.out.2.1, ⟨OB2.out.qn H2.out.2.2, .inr ⟨by decide, rfl⟩⟩⟩

set_option maxRecDepth 100000 in
set_option maxHeartbeats 4000000 in
theorem xHigh_c {w : World} : Calls Tryz.prog 43 #[] w fun e w' => ∃ s x n c d y m c' g, e = .returned (.agg #[.int .i64 1, .bool s, .slice x n c, .slice y m c']) ∧ Below w.heap.size w w' ∧ Hid (n ≤ 2 ∧ m ≤ 2 ∧ Fn w' 1 s x n d y m g 0) := by
  have h2 := ob4_new w 73
  have h3 := below_alloc (Below.refl w.heap.size w) (.cells #[.int .i64 0, .bool false, .slice none 0 0, .slice none 0 0] 73)
  go_enter Tryz.func43, Tryz.ntmps43
  go_wp2_with fail
  generalize w.alloc (.cells #[.int .i64 0, .bool false, .slice none 0 0, .slice none 0 0] 73) = w1 at *
  have OB := hid h2; have HW := hid h3
  clear h2 h3
  refine qZero4_c.mono ?_
  rintro e w2 ⟨s2, x2, n2, c2, d2, y2, m2, e2, g2, rfl, hb, H2⟩
  have HB := hid (HW.out.trans (hb.mono HW.out.size)); have OB2 := hid (OB.out.below hb)
  clear hb
  obtain ⟨hz, z0, z1, z2, z3, zf⟩ := OB2.out
  go_wp2
  exact bodyPost_ret (v := .agg #[.int .i64 1, .bool s2, .slice x2 n2 c2, .slice y2 m2 e2]) (by simp [results, Tryz.results43, go_sem, z0, z1, z2, z3]) rfl ⟨s2, x2, n2, c2, d2, y2, m2, e2, g2, rfl, below_st4 HB.out (Nat.le_refl _), H2.out.1, H2.out.2.1, ⟨OB2.out.qn H2.out.2.2, .inr ⟨by decide, rfl⟩⟩⟩

set_option maxRecDepth 100000 in
set_option maxHeartbeats 4000000 in
theorem xNum_c {w : World} {s : Bool} {x : Option Addr} {n c : Nat} {f : Nat → Int} {y : Option Addr} {m d : Nat} {g : Nat → Int} {q : Rat} (h : Qn w s x n f y m g q) : Calls Tryz.prog 79 #[.agg #[.bool s, .slice x n c, .slice y m d]] w fun e w' => e = .returned (.agg #[.int .i64 0, .bool s, .slice x n c, .slice y m d]) ∧ Below w.heap.size w w' ∧ Fn w' 0 s x n f y m g q := by
  have h1 := (bx3_at w (.bool s) (.slice x n c) (.slice y m d) 71).alloc (.cells #[.int .i64 0, .bool false, .slice none 0 0, .slice none 0 0] 73)
  have h2 := ob4_new (w.alloc (.cells #[.bool s, .slice x n c, .slice y m d] 71)) 73
  rw [size_alloc1] at h2
  have h3 := below_alloc (below_alloc (Below.refl w.heap.size w) (.cells #[.bool s, .slice x n c, .slice y m d] 71)) (.cells #[.int .i64 0, .bool false, .slice none 0 0, .slice none 0 0] 73)
  have HN := hid (h.below h3)
  clear h
  go_enter Tryz.func79, Tryz.ntmps79
  go_upto_region 1 with fail
  generalize (w.alloc (.cells #[.bool s, .slice x n c, .slice y m d] 71)).alloc (.cells #[.int .i64 0, .bool false, .slice none 0 0, .slice none 0 0] 73) = w1 at *
  have OB := hid h2; have HW := hid h3
  obtain ⟨z, x0, x1, x2⟩ := h1
  obtain ⟨hz, z0, z1, z2, z3, zf⟩ := h2
  clear h3
  go_wp2
  exact bodyPost_ret (v := .agg #[.int .i64 0, .bool s, .slice x n c, .slice y m d]) (by simp [results, Tryz.results79, go_sem, z0, z1, z2, z3]) rfl ⟨rfl, below_st4 HW.out (by omega), ⟨OB.out.qn HN.out, .inl rfl⟩⟩

set_option maxRecDepth 100000 in
set_option maxHeartbeats 4000000 in
theorem xSame_of {w : World} {i : Int} {s1 : Bool} {x1 : Option Addr} {n1 c1 : Nat} {y1 : Option Addr} {m1 d1 : Nat} {s2 : Bool} {x2 : Option Addr} {n2 c2 : Nat} {y2 : Option Addr} {m2 d2 : Nat} (hS : ∀ W, Below w.heap.size w W → Calls Tryz.prog 9 #[.agg #[.bool s1, .slice x1 n1 c1, .slice y1 m1 d1], .agg #[.bool s2, .slice x2 n2 c2, .slice y2 m2 d2]] W fun e w' => e = .returned (.bool true) ∧ Below W.heap.size W w') :
    Calls Tryz.prog 16 #[.agg #[.int .i64 i, .bool s1, .slice x1 n1 c1, .slice y1 m1 d1], .agg #[.int .i64 i, .bool s2, .slice x2 n2 c2, .slice y2 m2 d2]] w fun e w' => e = .returned (.bool true) ∧ Below w.heap.size w w' := by
  have h1 := (bx4_at w (.int .i64 i) (.bool s1) (.slice x1 n1 c1) (.slice y1 m1 d1) 33).alloc (.cells #[.int .i64 i, .bool s2, .slice x2 n2 c2, .slice y2 m2 d2] 33)
  have h2 := bx4_at (w.alloc (.cells #[.int .i64 i, .bool s1, .slice x1 n1 c1, .slice y1 m1 d1] 33)) (.int .i64 i) (.bool s2) (.slice x2 n2 c2) (.slice y2 m2 d2) 33
  rw [size_alloc1] at h2
  have h3 := below_alloc (below_alloc (Below.refl w.heap.size w) (.cells #[.int .i64 i, .bool s1, .slice x1 n1 c1, .slice y1 m1 d1] 33)) (.cells #[.int .i64 i, .bool s2, .slice x2 n2 c2, .slice y2 m2 d2] 33)
  have HS := hid (hS _ h3)
  have hii : (i == i) = true := by simp
  clear hS
  go_enter Tryz.func16, Tryz.ntmps16
  go_upto_region 1 with fail
  generalize (w.alloc (.cells #[.int .i64 i, .bool s1, .slice x1 n1 c1, .slice y1 m1 d1] 33)).alloc (.cells #[.int .i64 i, .bool s2, .slice x2 n2 c2, .slice y2 m2 d2] 33) = w1 at *
  have HW := hid h3
  obtain ⟨za, a0, a1, a2, a3⟩ := h1
  obtain ⟨zb, b0, b1, b2, b3⟩ := h2
  clear h3
  go_wp2_with fail
  refine HS.out.mono ?_
  rintro e w2 ⟨rfl, hb⟩
  have HB := hid (HW.out.trans (hb.mono HW.out.size))
  clear hb
  go_wp2
  go_ret
  exact ⟨rfl, HB.out⟩

/-- The greater of two bounds; the lesser. -/
def EMax (i : Int) (a : Rat) (j : Int) (b : Rat) (k : Int) (q : Rat) : Prop := ∃ c, EOrd c i a j b ∧ (c < 0 ∧ k = j ∧ q = b ∨ ¬ c < 0 ∧ k = i ∧ q = a)
def EMin (i : Int) (a : Rat) (j : Int) (b : Rat) (k : Int) (q : Rat) : Prop := ∃ c, EOrd c i a j b ∧ (0 < c ∧ k = j ∧ q = b ∨ ¬ 0 < c ∧ k = i ∧ q = a)
theorem EOrd.uniq {c c' i a j b} (h : EOrd c i a j b) (k : EOrd c' i a j b) : c = c' := by
  have irr : ∀ p : Rat, ¬ p < p := fun p h => absurd h (by grind)
  rcases h with ⟨h1, h2⟩ | ⟨h1, h2, h3⟩ | ⟨h1, h2⟩ <;> rcases k with ⟨k1, k2⟩ | ⟨k1, k2, k3⟩ | ⟨k1, k2⟩ <;> first | omega | (exfalso; grind)
theorem EMax.uniq {i a j b k q k' q'} (h : EMax i a j b k q) (h' : EMax i a j b k' q') : k = k' ∧ q = q' := by
  obtain ⟨c, h1, h2⟩ := h
  obtain ⟨c', k1, k2⟩ := h'
  have := h1.uniq k1
  subst this
  rcases h2 with ⟨p1, p2, p3⟩ | ⟨p1, p2, p3⟩ <;> rcases k2 with ⟨r1, r2, r3⟩ | ⟨r1, r2, r3⟩ <;> first | omega | exact ⟨by omega, by rw [p3, r3]⟩
theorem EMin.uniq {i a j b k q k' q'} (h : EMin i a j b k q) (h' : EMin i a j b k' q') : k = k' ∧ q = q' := by
  obtain ⟨c, h1, h2⟩ := h
  obtain ⟨c', k1, k2⟩ := h'
  have := h1.uniq k1
  subst this
  rcases h2 with ⟨p1, p2, p3⟩ | ⟨p1, p2, p3⟩ <;> rcases k2 with ⟨r1, r2, r3⟩ | ⟨r1, r2, r3⟩ <;> first | omega | exact ⟨by omega, by rw [p3, r3]⟩

end Go.Proofs.YtlpmfmphglgocaaGreatDoor
namespace Go.Proofs.YtlpmfmphglgocaaGreatDoor
open Go.RowKit

/-- A list of two bounds. -/
structure Li2 (w : World) (B : Nat) (a0 a1 a2 a3 b0 b1 b2 b3 : Value) : Prop where
  z : B < w.heap.size
  x0 : w.cell? ⟨B, 0, none⟩ = some a0
  x1 : w.cell? ⟨B, 1, none⟩ = some a1
  x2 : w.cell? ⟨B, 2, none⟩ = some a2
  x3 : w.cell? ⟨B, 3, none⟩ = some a3
  y0 : w.cell? ⟨B, 4, none⟩ = some b0
  y1 : w.cell? ⟨B, 5, none⟩ = some b1
  y2 : w.cell? ⟨B, 6, none⟩ = some b2
  y3 : w.cell? ⟨B, 7, none⟩ = some b3
theorem Li2.below {w w' B a0 a1 a2 a3 b0 b1 b2 b3} (h : Li2 w B a0 a1 a2 a3 b0 b1 b2 b3) (hb : Below w.heap.size w w') : Li2 w' B a0 a1 a2 a3 b0 b1 b2 b3 := ⟨Nat.lt_of_lt_of_le h.z hb.size, kCb hb h.x0, kCb hb h.x1, kCb hb h.x2, kCb hb h.x3, kCb hb h.y0, kCb hb h.y1, kCb hb h.y2, kCb hb h.y3⟩
theorem li2_at (w : World) (a0 a1 a2 a3 b0 b1 b2 b3 : Value) (t : TypeId) : Li2 (w.alloc (.cells #[a0, a1, a2, a3, b0, b1, b2, b3] t)) w.heap.size a0 a1 a2 a3 b0 b1 b2 b3 := ⟨by simp, by simp [go_sem], by simp [go_sem], by simp [go_sem], by simp [go_sem], by simp [go_sem], by simp [go_sem], by simp [go_sem], by simp [go_sem]⟩

set_option maxRecDepth 100000 in
set_option maxHeartbeats 4000000 in
theorem allForm1_c {w : World} {i : Int} {s : Bool} {x : Option Addr} {n c : Nat} {f : Nat → Int} {y : Option Addr} {m d : Nat} {g : Nat → Int} {B : Nat} (hB : Bx4 w B (.int .i64 i) (.bool s) (.slice x n c) (.slice y m d)) (h : Rw w x n c f y m d g) (hn : n ≤ 4096) (hm : m ≤ 4096) :
    Calls Tryz.prog 71 #[.slice (some ⟨B, 0, none⟩) 1 1] w fun e w' => e = .returned (.bool (efB i s f n g m)) ∧ Below w.heap.size w w' := by
  have HB := hid hB; have HR := hid h
  obtain ⟨p, hp⟩ : ∃ p, efB i s f n g m = p := ⟨_, rfl⟩
  have HP := hid hp
  rw [hp]
  clear hB h hp
  go_enter Tryz.func71, Tryz.ntmps71
  go_wp2
  go_loopw [7] (fun t wr => ∃ k : Nat, k ≤ 1 ∧ t = .int .i64 k ∧ Hid (Below w.heap.size w wr ∧ (k = 1 → p = true))) (fun t _ => 1 - (intOf t).toNat)
  case atStart => exact ⟨0, by omega, rfl, Below.refl _ _, fun h => by omega⟩
  case round =>
    obtain ⟨k, hk, rfl, HI⟩ := hrel
    have HBr := hid HI.out.1
    by_cases hlt : k < 1
    · obtain rfl : k = 0 := by omega
      obtain ⟨z, x0, x1, x2, x3⟩ := HB.out.below HBr.out
      have c1 := eForm_c (i := i) (s := s) ((HR.out.below HBr.out).alloc (.cells #[.int .i64 i, .bool s, .slice x n c, .slice y m d] 33)) hn hm
      rw [HP.out] at c1
      have C1 := hid c1
      clear c1
      cases p
      · go_wp2_with fail
        refine C1.out.mono ?_
        rintro e w2 ⟨rfl, hb⟩
        have HW := hid ((below_alloc HBr.out _).trans (hb.mono (below_alloc HBr.out _).size))
        clear hb
        go_wp2
        go_ret
        exact ⟨rfl, HW.out⟩
      · go_wp2_with fail
        refine C1.out.mono ?_
        rintro e w2 ⟨rfl, hb⟩
        have HW := hid ((below_alloc HBr.out _).trans (hb.mono (below_alloc HBr.out _).size))
        clear hb
        go_wp2
        go_roundw
        case rel => exact ⟨1, by omega, by go_num, HW.out, by simp⟩
        case measure => simp [intOf]
    · obtain rfl : k = 1 := by omega
      have hpt := HI.out.2 rfl
      subst hpt
      go_wp2
      go_ret
      exact ⟨rfl, HBr.out⟩

set_option maxRecDepth 100000 in
set_option maxHeartbeats 4000000 in
theorem allForm2_c {w : World} {i1 : Int} {s1 : Bool} {x1 : Option Addr} {n1 c1 : Nat} {f1 : Nat → Int} {y1 : Option Addr} {m1 d1 : Nat} {g1 : Nat → Int} {i2 : Int} {s2 : Bool} {x2 : Option Addr} {n2 c2 : Nat} {f2 : Nat → Int} {y2 : Option Addr} {m2 d2 : Nat} {g2 : Nat → Int} {B : Nat} (hB : Li2 w B (.int .i64 i1) (.bool s1) (.slice x1 n1 c1) (.slice y1 m1 d1) (.int .i64 i2) (.bool s2) (.slice x2 n2 c2) (.slice y2 m2 d2)) (h1 : Rw w x1 n1 c1 f1 y1 m1 d1 g1) (h2 : Rw w x2 n2 c2 f2 y2 m2 d2 g2) (hn1 : n1 ≤ 4096) (hm1 : m1 ≤ 4096) (hn2 : n2 ≤ 4096) (hm2 : m2 ≤ 4096) :
    Calls Tryz.prog 71 #[.slice (some ⟨B, 0, none⟩) 2 2] w fun e w' => e = .returned (.bool (efB i1 s1 f1 n1 g1 m1 && efB i2 s2 f2 n2 g2 m2)) ∧ Below w.heap.size w w' := by
  have HB := hid hB; have HR1 := hid h1; have HR2 := hid h2
  obtain ⟨p, hp⟩ : ∃ p, efB i1 s1 f1 n1 g1 m1 = p := ⟨_, rfl⟩
  obtain ⟨q, hq⟩ : ∃ p, efB i2 s2 f2 n2 g2 m2 = p := ⟨_, rfl⟩
  have HP := hid hp; have HQ := hid hq
  rw [hp, hq]
  clear hB h1 h2 hp hq
  go_enter Tryz.func71, Tryz.ntmps71
  go_wp2
  go_loopw [7] (fun t wr => ∃ k : Nat, k ≤ 2 ∧ t = .int .i64 k ∧ Hid (Below w.heap.size w wr ∧ (0 < k → p = true) ∧ (1 < k → q = true))) (fun t _ => 2 - (intOf t).toNat)
  case atStart => exact ⟨0, by omega, rfl, Below.refl _ _, fun h => by omega, fun h => by omega⟩
  case round =>
    obtain ⟨k, hk, rfl, HI⟩ := hrel
    have HBr := hid HI.out.1
    rcases (show k = 0 ∨ k = 1 ∨ k = 2 by omega) with rfl | rfl | rfl
    · obtain ⟨z, e0, e1, e2, e3, _, _, _, _⟩ := HB.out.below HBr.out
      have c1 := eForm_c (i := i1) (s := s1) ((HR1.out.below HBr.out).alloc (.cells #[.int .i64 i1, .bool s1, .slice x1 n1 c1, .slice y1 m1 d1] 33)) hn1 hm1
      rw [HP.out] at c1
      have C1 := hid c1
      clear c1
      cases p
      · go_wp2_with fail
        refine C1.out.mono ?_
        rintro e w2 ⟨rfl, hb⟩
        have HW := hid ((below_alloc HBr.out _).trans (hb.mono (below_alloc HBr.out _).size))
        clear hb
        go_wp2
        go_ret
        exact ⟨rfl, HW.out⟩
      · go_wp2_with fail
        refine C1.out.mono ?_
        rintro e w2 ⟨rfl, hb⟩
        have HW := hid ((below_alloc HBr.out _).trans (hb.mono (below_alloc HBr.out _).size))
        clear hb
        go_wp2
        go_roundw
        case rel => exact ⟨1, by omega, by go_num, HW.out, by simp, by simp⟩
        case measure => simp [intOf]
    · obtain ⟨z, _, _, _, _, e0, e1, e2, e3⟩ := HB.out.below HBr.out
      have hpt := HI.out.2.1 (by omega)
      subst hpt
      have c1 := eForm_c (i := i2) (s := s2) ((HR2.out.below HBr.out).alloc (.cells #[.int .i64 i2, .bool s2, .slice x2 n2 c2, .slice y2 m2 d2] 33)) hn2 hm2
      rw [HQ.out] at c1
      have C1 := hid c1
      clear c1
      cases q
      · go_wp2_with fail
        refine C1.out.mono ?_
        rintro e w2 ⟨rfl, hb⟩
        have HW := hid ((below_alloc HBr.out _).trans (hb.mono (below_alloc HBr.out _).size))
        clear hb
        go_wp2
        go_ret
        exact ⟨rfl, HW.out⟩
      · go_wp2_with fail
        refine C1.out.mono ?_
        rintro e w2 ⟨rfl, hb⟩
        have HW := hid ((below_alloc HBr.out _).trans (hb.mono (below_alloc HBr.out _).size))
        clear hb
        go_wp2
        go_roundw
        case rel => exact ⟨2, by omega, by go_num, HW.out, by simp, by simp⟩
        case measure => simp [intOf]
    · have hpt := HI.out.2.1 (by omega)
      have hqt := HI.out.2.2 (by omega)
      subst hpt hqt
      go_wp2
      go_ret
      exact ⟨rfl, HBr.out⟩

/-- What Cmp answers. -/
def OC (p : Bool) (i : Int) (a : Rat) (j : Int) (b : Rat) (r er : Int) : Prop := p = false ∧ er = 3 ∧ r = 0 ∨ p = true ∧ er = 0 ∧ EOrd r i a j b
theorem OC.uniq {p i a j b r er r' er'} (h : OC p i a j b r er) (k : OC p i a j b r' er') : r' = r ∧ er' = er := by
  rcases h with ⟨h1, h2, h3⟩ | ⟨h1, h2, h3⟩ <;> rcases k with ⟨k1, k2, k3⟩ | ⟨k1, k2, k3⟩
  · omega
  · rw [h1] at k1; cases k1
  · rw [h1] at k1; cases k1
  · exact ⟨k3.uniq h3, by omega⟩

set_option maxRecDepth 100000 in
set_option maxHeartbeats 4000000 in
theorem eCmp_g {w : World} {i1 : Int} {s1 : Bool} {x1 : Option Addr} {n1 c1 : Nat} {f1 : Nat → Int} {y1 : Option Addr} {m1 d1 : Nat} {g1 : Nat → Int} {i2 : Int} {s2 : Bool} {x2 : Option Addr} {n2 c2 : Nat} {f2 : Nat → Int} {y2 : Option Addr} {m2 d2 : Nat} {g2 : Nat → Int} {qa qb : Rat} {p1 p2 : Bool} (h1 : Rw w x1 n1 c1 f1 y1 m1 d1 g1) (h2 : Rw w x2 n2 c2 f2 y2 m2 d2 g2) (hn1 : n1 ≤ 100) (hm1 : m1 ≤ 100) (hn2 : n2 ≤ 100) (hm2 : m2 ≤ 100) (hp1 : efB i1 s1 f1 n1 g1 m1 = p1) (hp2 : efB i2 s2 f2 n2 g2 m2 = p2) (hq1 : p1 = true → En 100 w i1 s1 x1 n1 c1 f1 y1 m1 d1 g1 qa) (hq2 : p2 = true → En 100 w i2 s2 x2 n2 c2 f2 y2 m2 d2 g2 qb) :
    Calls Tryz.prog 36 #[.agg #[.int .i64 i1, .bool s1, .slice x1 n1 c1, .slice y1 m1 d1], .agg #[.int .i64 i2, .bool s2, .slice x2 n2 c2, .slice y2 m2 d2]] w fun e w' => ∃ r er, e = .returned (.tuple #[.int .i64 r, .int .i64 er]) ∧ Below w.heap.size w w' ∧ Hid (OC (p1 && p2) i1 qa i2 qb r er) := by
  have HP1 := hid hp1; have HP2 := hid hp2
  have k1 := (bx4_at w (.int .i64 i1) (.bool s1) (.slice x1 n1 c1) (.slice y1 m1 d1) 33).alloc (.cells #[.int .i64 i2, .bool s2, .slice x2 n2 c2, .slice y2 m2 d2] 33)
  have k2 := bx4_at (w.alloc (.cells #[.int .i64 i1, .bool s1, .slice x1 n1 c1, .slice y1 m1 d1] 33)) (.int .i64 i2) (.bool s2) (.slice x2 n2 c2) (.slice y2 m2 d2) 33
  rw [size_alloc1] at k2
  have k3 := below_alloc (below_alloc (Below.refl w.heap.size w) (.cells #[.int .i64 i1, .bool s1, .slice x1 n1 c1, .slice y1 m1 d1] 33)) (.cells #[.int .i64 i2, .bool s2, .slice x2 n2 c2, .slice y2 m2 d2] 33)
  have HQ1 := hid (fun h => (hq1 h).below k3); have HQ2 := hid (fun h => (hq2 h).below k3); have HR1 := hid (h1.below k3); have HR2 := hid (h2.below k3)
  clear hp1 hp2 hq1 hq2 h1 h2
  go_enter Tryz.func36, Tryz.ntmps36
  go_upto_region 1 with fail
  generalize (w.alloc (.cells #[.int .i64 i1, .bool s1, .slice x1 n1 c1, .slice y1 m1 d1] 33)).alloc (.cells #[.int .i64 i2, .bool s2, .slice x2 n2 c2, .slice y2 m2 d2] 33) = w1 at *
  have HW := hid k3; have BA := hid k1; have BB := hid k2
  clear k1 k2 k3
  obtain ⟨za, a0, a1, a2, a3⟩ := BA.out
  obtain ⟨zb, b0, b1, b2, b3⟩ := BB.out
  go_wp2_with fail
  have cf := fun (t : TypeId) => allForm2_c (li2_at w1 (.int .i64 i1) (.bool s1) (.slice x1 n1 c1) (.slice y1 m1 d1) (.int .i64 i2) (.bool s2) (.slice x2 n2 c2) (.slice y2 m2 d2) t) (HR1.out.alloc _) (HR2.out.alloc _) (by omega) (by omega) (by omega) (by omega)
  rw [HP1.out, HP2.out] at cf
  refine (cf _).mono ?_
  rintro e w2 ⟨rfl, hb⟩
  have HB1 : Hid (Below w1.heap.size w1 w2) := (below_alloc (Below.refl _ _) _).trans (hb.mono (by simp))
  have HB := hid (HW.out.trans (HB1.out.mono HW.out.size))
  clear hb cf za a0 a1 a2 a3 zb b0 b1 b2 b3
  obtain ⟨pp, hp⟩ : ∃ pp, (p1 && p2) = pp := ⟨_, rfl⟩
  have HPP := hid hp
  rw [hp]
  cases pp
  · clear hp
    go_wp2
    go_ret2
    exact ⟨0, 3, rfl, HB.out, .inl ⟨HPP.out, rfl, rfl⟩⟩
  have hpp : p1 = true ∧ p2 = true := by simpa using hp
  have E1 := hid ((HQ1.out hpp.1).below HB1.out); have E2 := hid ((HQ2.out hpp.2).below HB1.out)
  clear hp hpp
  obtain ⟨za, a0, a1, a2, a3⟩ := BA.out.below HB1.out
  obtain ⟨zb, b0, b1, b2, b3⟩ := BB.out.below HB1.out
  by_cases hz : i1 = 0 ∧ i2 = 0
  · obtain ⟨rfl, rfl⟩ := hz
    go_wp2_with fail
    refine (rCmp_n E1.out.rn E2.out.rn (by omega)).mono ?_
    rintro e w3 ⟨r, rfl, hb, hr⟩
    have HB3 := hid (HB.out.trans (hb.mono HB.out.size)); have HRr := hid hr
    clear hb hr
    go_wp2
    go_ret2
    refine ⟨r, 0, rfl, HB3.out, .inr ⟨HPP.out, rfl, ?_⟩⟩
    rcases HRr.out with ⟨j1, j2⟩ | ⟨j1, j2⟩ | ⟨j1, j2⟩
    · exact .inl ⟨j1, .inr ⟨rfl, j2⟩⟩
    · exact .inr (.inl ⟨j1, rfl, j2⟩)
    · exact .inr (.inr ⟨j1, .inr ⟨rfl, j2⟩⟩)
  · have hcase : (i1 != 0) = true ∨ (i1 != 0) = false ∧ (i2 != 0) = true := by
      by_cases h : i1 = 0
      · right; subst h; exact ⟨by simp, by simp; intro h; exact hz ⟨rfl, h⟩⟩
      · left; simp; exact h
    have HEq : Hid (i1 = i2 → qa = qb) := by
      intro h
      have j1 := E1.out.inf; have j2 := E2.out.inf
      rcases j1 with j1 | j1
      · exact absurd ⟨j1, by omega⟩ hz
      · rcases j2 with j2 | j2
        · exact absurd ⟨by omega, j2⟩ hz
        · rw [j1.2, j2.2]
    clear hz
    rcases hcase with hc | ⟨hc, hc2⟩
    all_goals
      go_wp2_with fail
      refine compare_c.mono ?_
      rintro e w3 ⟨r, rfl, rfl, hr⟩
      have HRr := hid hr
      clear hr
      go_wp2
      go_ret2
      refine ⟨r, 0, rfl, HB.out, .inr ⟨HPP.out, rfl, ?_⟩⟩
      rcases HRr.out with ⟨j1, j2⟩ | ⟨j1, j2⟩ | ⟨j1, j2⟩
      · exact .inl ⟨j1, .inl j2⟩
      · exact .inr (.inl ⟨j1, j2, HEq.out j2⟩)
      · exact .inr (.inr ⟨j1, .inl j2⟩)

/-- What a call answers that answers a bound. -/
def OE (p : Bool) (P : Int → Rat → Prop) (w' : World) (i : Int) (s : Bool) (x : Option Addr) (n c : Nat) (f : Nat → Int) (y : Option Addr) (m d : Nat) (g : Nat → Int) (er : Int) : Prop :=
  p = false ∧ er = 3 ∧ (i = 0 ∧ n = 0 ∧ m = 0 ∧ s = false) ∨ p = true ∧ er = 0 ∧ ∃ q, P i q ∧ En 2000 w' i s x n c f y m d g q
theorem OE.below {p P w w' i s x n c f y m d g er} (h : OE p P w i s x n c f y m d g er) (hb : Below w.heap.size w w') : OE p P w' i s x n c f y m d g er := by
  rcases h with h | ⟨h1, h2, q, h3, h4⟩
  · exact .inl h
  · exact .inr ⟨h1, h2, q, h3, h4.below hb⟩
theorem OE.alloc {p P w i s x n c f y m d g er} (h : OE p P w i s x n c f y m d g er) (o : Obj) : OE p P (w.alloc o) i s x n c f y m d g er := h.below (below_alloc (Below.refl _ _) o)
set_option maxRecDepth 100000 in
set_option maxHeartbeats 4000000 in
theorem eMax_g {w : World} {i1 : Int} {s1 : Bool} {x1 : Option Addr} {n1 c1 : Nat} {f1 : Nat → Int} {y1 : Option Addr} {m1 d1 : Nat} {g1 : Nat → Int} {i2 : Int} {s2 : Bool} {x2 : Option Addr} {n2 c2 : Nat} {f2 : Nat → Int} {y2 : Option Addr} {m2 d2 : Nat} {g2 : Nat → Int} {qa qb : Rat} {p1 p2 : Bool} (h1 : Rw w x1 n1 c1 f1 y1 m1 d1 g1) (h2 : Rw w x2 n2 c2 f2 y2 m2 d2 g2) (hn1 : n1 ≤ 100) (hm1 : m1 ≤ 100) (hn2 : n2 ≤ 100) (hm2 : m2 ≤ 100) (hp1 : efB i1 s1 f1 n1 g1 m1 = p1) (hp2 : efB i2 s2 f2 n2 g2 m2 = p2) (hq1 : p1 = true → En 100 w i1 s1 x1 n1 c1 f1 y1 m1 d1 g1 qa) (hq2 : p2 = true → En 100 w i2 s2 x2 n2 c2 f2 y2 m2 d2 g2 qb) :
    Calls Tryz.prog 40 #[.agg #[.int .i64 i1, .bool s1, .slice x1 n1 c1, .slice y1 m1 d1], .agg #[.int .i64 i2, .bool s2, .slice x2 n2 c2, .slice y2 m2 d2]] w fun e w' => ∃ i s x n c f y m d g er, e = .returned (.tuple #[.agg #[.int .i64 i, .bool s, .slice x n c, .slice y m d], .int .i64 er]) ∧ Below w.heap.size w w' ∧ Hid (OE (p1 && p2) (EMax i1 qa i2 qb) w' i s x n c f y m d g er) := by
  have k1 := ((bx4_at w (.int .i64 i1) (.bool s1) (.slice x1 n1 c1) (.slice y1 m1 d1) 33).alloc (.cells #[.int .i64 i2, .bool s2, .slice x2 n2 c2, .slice y2 m2 d2] 33)).alloc (.cells #[.int .i64 0, .bool false, .slice none 0 0, .slice none 0 0] 33)
  have k2 := (bx4_at (w.alloc (.cells #[.int .i64 i1, .bool s1, .slice x1 n1 c1, .slice y1 m1 d1] 33)) (.int .i64 i2) (.bool s2) (.slice x2 n2 c2) (.slice y2 m2 d2) 33).alloc (.cells #[.int .i64 0, .bool false, .slice none 0 0, .slice none 0 0] 33)
  rw [size_alloc1] at k2
  have k5 := ob4_new ((w.alloc (.cells #[.int .i64 i1, .bool s1, .slice x1 n1 c1, .slice y1 m1 d1] 33)).alloc (.cells #[.int .i64 i2, .bool s2, .slice x2 n2 c2, .slice y2 m2 d2] 33)) 33
  rw [size_alloc1, size_alloc1] at k5
  have k3 := below_alloc (below_alloc (below_alloc (Below.refl w.heap.size w) (.cells #[.int .i64 i1, .bool s1, .slice x1 n1 c1, .slice y1 m1 d1] 33)) (.cells #[.int .i64 i2, .bool s2, .slice x2 n2 c2, .slice y2 m2 d2] 33)) (.cells #[.int .i64 0, .bool false, .slice none 0 0, .slice none 0 0] 33)
  have HP1 := hid hp1; have HP2 := hid hp2; have HQ1 := hid (fun h => (hq1 h).below k3); have HQ2 := hid (fun h => (hq2 h).below k3); have HR1 := hid (h1.below k3); have HR2 := hid (h2.below k3)
  clear hp1 hp2 hq1 hq2 h1 h2
  go_enter Tryz.func40, Tryz.ntmps40
  go_wp2_with fail
  generalize ((w.alloc (.cells #[.int .i64 i1, .bool s1, .slice x1 n1 c1, .slice y1 m1 d1] 33)).alloc (.cells #[.int .i64 i2, .bool s2, .slice x2 n2 c2, .slice y2 m2 d2] 33)).alloc (.cells #[.int .i64 0, .bool false, .slice none 0 0, .slice none 0 0] 33) = w1 at *
  have HW := hid k3; have OB := hid k5; have BA := hid k1; have BB := hid k2
  clear k1 k2 k3 k5
  refine (eCmp_g HR1.out HR2.out hn1 hm1 hn2 hm2 HP1.out HP2.out HQ1.out HQ2.out).mono ?_
  rintro e w2 ⟨r, er, rfl, hb, HC⟩
  have HB1 := hid hb
  have HB := hid (HW.out.trans (HB1.out.mono HW.out.size)); have OB2 := hid (OB.out.below hb)
  have hoc := HC.out
  clear hb HC
  rcases hoc with ⟨hp, rfl, rfl⟩ | ⟨hp, rfl, hor⟩
  · have HPF := hid hp
    clear hp
    obtain ⟨hz, z0, z1, z2, z3, zf⟩ := OB2.out
    go_wp2
    exact bodyPost_ret (v := .tuple #[.agg #[.int .i64 0, .bool false, .slice none 0 0, .slice none 0 0], .int .i64 3]) (by simp [results, Tryz.results40, go_sem, z0, z1, z2, z3]) rfl ⟨0, false, none, 0, 0, fun _ => 0, none, 0, 0, fun _ => 0, 3, rfl, below_st4 HB.out (by omega), .inl ⟨HPF.out, rfl, rfl, rfl, rfl, rfl⟩⟩
  have hpp : p1 = true ∧ p2 = true := by simpa using hp
  have E1 := hid ((HQ1.out hpp.1).below HB1.out); have E2 := hid ((HQ2.out hpp.2).below HB1.out); have HO := hid hor; have HPP := hid hp
  clear hp hpp hor
  obtain ⟨za, a0, a1, a2, a3⟩ := BA.out.below HB1.out
  obtain ⟨zb, b0, b1, b2, b3⟩ := BB.out.below HB1.out
  by_cases hc : r < 0
  · have hd : decide (r < 0) = true := decide_eq_true hc
    have HC := hid hc
    clear hc
    go_wp2_with fail
    refine (eCopy_c E2.out (by omega)).mono ?_
    rintro e w3 ⟨s3, x3, n3, c3, f3, y3, m3, d3, g3, rfl, hb, he⟩
    have HB3 := hid (HB.out.trans (hb.mono HB.out.size)); have OB3 := hid (OB2.out.below hb); have E3 := hid he
    clear hb he za a0 a1 a2 a3 zb b0 b1 b2 b3
    obtain ⟨hz, z0, z1, z2, z3, zf⟩ := OB3.out
    go_wp2
    exact bodyPost_ret (v := .tuple #[.agg #[.int .i64 i2, .bool s3, .slice x3 n3 c3, .slice y3 m3 d3], .int .i64 0]) (by simp [results, Tryz.results40, go_sem, z0, z1, z2, z3]) rfl ⟨i2, s3, x3, n3, c3, f3, y3, m3, d3, g3, 0, rfl, below_st4 HB3.out (by omega), .inr ⟨HPP.out, rfl, qb, ⟨r, HO.out, .inl ⟨by have := HC.out; omega, rfl, rfl⟩⟩, ⟨OB3.out.rn (E3.out.rn.mono (by omega)), E3.out.inf⟩⟩⟩
  · have hd : decide (r < 0) = false := decide_eq_false hc
    have HC := hid hc
    clear hc
    go_wp2_with fail
    refine (eCopy_c E1.out (by omega)).mono ?_
    rintro e w3 ⟨s3, x3, n3, c3, f3, y3, m3, d3, g3, rfl, hb, he⟩
    have HB3 := hid (HB.out.trans (hb.mono HB.out.size)); have OB3 := hid (OB2.out.below hb); have E3 := hid he
    clear hb he za a0 a1 a2 a3 zb b0 b1 b2 b3
    obtain ⟨hz, z0, z1, z2, z3, zf⟩ := OB3.out
    go_wp2
    exact bodyPost_ret (v := .tuple #[.agg #[.int .i64 i1, .bool s3, .slice x3 n3 c3, .slice y3 m3 d3], .int .i64 0]) (by simp [results, Tryz.results40, go_sem, z0, z1, z2, z3]) rfl ⟨i1, s3, x3, n3, c3, f3, y3, m3, d3, g3, 0, rfl, below_st4 HB3.out (by omega), .inr ⟨HPP.out, rfl, qa, ⟨r, HO.out, .inr ⟨by have := HC.out; omega, rfl, rfl⟩⟩, ⟨OB3.out.rn (E3.out.rn.mono (by omega)), E3.out.inf⟩⟩⟩

end Go.Proofs.YtlpmfmphglgocaaGreatDoor

/-
  The walks of package rat's Add, Sub, Mul and Quo, with the owners of what they answer (written by makers/ow.py). Walks of the document's Same and Light of rational numbers, and of the statements' own light. Walks of the document's reference for whole: Neg, Add, Sub, Mul, Sign, Cmp. Walks of the document's reference for whole: Divide. Walks of the document's reference for rat: Add, Sub, Cmp. Walks of rat's calls where they tell that a number is not in form, and of the document's Doc, DocNeg there; DocNeg. The walk of the document's reference for rat: Doc, of numbers in form. Walks of rat's Add, Sub, Mul, Quo, whatever they are handed, and of the statements' call. The walks of package rat's Neg, Of and Make, with the owners of what they answer (written by makers/ow.py). Walks of package rat's calls Text on numbers in form, and Read on the text 4/2. The walk of package rat's call Text on -3/2. The walk of the statements' own look at answers of rat that the document fixes (awake). The walk of RatSums. Walks of rat.Make and of the document's DocMake, whatever they are handed. Lists in memory that are told apart by their blocks; append, with the place of what it answers. No Go text is named here. The two rounds of stores of a statement that spoils lists and looks at the others, where the lists lie in a row of structs. Rat's calls, whatever they are handed, with the owners of what they answer; answers gathered one after another (written by makers/ow.py). The walk of the statement's answers: the numbers that rat's calls answer, each with two lists in blocks of their own (written by makers/j8.py).
-/
import Derived.Test.YtlpmfmphglgocaaGreatDoorZ0
import Derived.Test.YtlpmfmphglgocaaGreatDoorZ1
import Derived.Test.YtlpmfmphglgocaaGreatDoorZ2
import Derived.Test.YtlpmfmphglgocaaGreatDoorZ3
import Derived.Test.YtlpmfmphglgocaaGreatDoorZ4
import Derived.Test.YtlpmfmphglgocaaGreatDoorZ5
import Derived.Test.YtlpmfmphglgocaaGreatDoorZ6
import Derived.Test.YtlpmfmphglgocaaGreatDoorZ7
import Derived.Test.YtlpmfmphglgocaaGreatDoorZ8
import Derived.Test.YtlpmfmphglgocaaGreatDoorZ9
import Derived.Test.YtlpmfmphglgocaaGreatDoorYRatkeeps0
import Derived.Test.YtlpmfmphglgocaaGreatDoorYRatkeeps1
import Derived.Deep.RegionHeld3
namespace Go.Proofs.YtlpmfmphglgocaaGreatDoor
open Go.RowKit

set_option maxRecDepth 100000 in
set_option maxHeartbeats 4000000 in
theorem rSub_o {L : Nat} {w : World} {sa : Bool} {xa : Option Addr} {na ca : Nat} {fa : Nat → Int} {ya : Option Addr} {ma da : Nat} {ga : Nat → Int} {a : Rat} {sb : Bool} {xb : Option Addr} {nb cb : Nat} {fb : Nat → Int} {yb : Option Addr} {mb db : Nat} {gb : Nat → Int} {b : Rat} (ha : Rn L w sa xa na ca fa ya ma da ga a) (hb : Rn L w sb xb nb cb fb yb mb db gb b) (hL : L ≤ 200000) :
    Calls Tryz.prog 27 #[.agg #[.bool sa, .slice xa na ca, .slice ya ma da], .agg #[.bool sb, .slice xb nb cb, .slice yb mb db]] w fun e w' => RatTupO (2 * L + 1) w w' e (a - b) := by
  have HA0 := hid ha; have HB0 := hid hb
  clear ha hb
  go_enter Tryz.func27, Tryz.ntmps27
  go_wp2_with fail
  refine (rForm_n (((HA0.out.alloc _).alloc _).alloc _) (by omega)).mono ?_
  rintro e w1 ⟨rfl, hbel⟩
  obtain ⟨⟨hz, x0, x1, x2, y0, y1, y2, z0, z1, z2, zf⟩, hw⟩ := three_new hbel
  have T1 : Hid (Three w.heap.size w1 _ _ _ _ _ _ _ _ _) := ⟨hz, x0, x1, x2, y0, y1, y2, z0, z1, z2, zf⟩
  have HW1 := hid hw; have HA1 := hid (HA0.out.below hw); have HB1 := hid (HB0.out.below hw)
  clear hbel hw HA0 HB0
  go_wp2_with fail
  refine (rForm_n HB1.out (by omega)).mono ?_
  rintro e w2 ⟨rfl, hb⟩
  have HA2 := hid (HA1.out.below hb); have HB2 := hid (HB1.out.below hb); have T2 := hid (T1.out.below hb); have HW2 := hid (HW1.out.trans (hb.mono HW1.out.size))
  clear HA1 HB1 T1 HW1 hb
  clear hz x0 x1 x2 y0 y1 y2 z0 z1 z2 zf
  obtain ⟨hz, x0, x1, x2, y0, y1, y2, z0, z1, z2, zf⟩ := T2.out
  have hza : w.heap.size < w2.heap.size := by omega
  have hzb : w.heap.size + 1 < w2.heap.size := by omega
  have C3 : Hid (∀ (W : World), Below w2.heap.size w2 W → Calls Tryz.prog 52 #[.bool !sb, .slice xb nb cb, .slice yb mb db] W fun e w' => ∃ r, e = .returned (.agg #[.bool r, .slice xb nb cb, .slice yb mb db]) ∧ Below W.heap.size W w' ∧ Hid (Rn L w' r xb nb cb fb yb mb db gb (-b))) := fun W hW => (rsigned_c _ xb yb nb cb mb db W (by have := HB2.out.num.cap; have := HB2.out.den.cap; omega)).mono (fun e w' ⟨r, h1, h2, h3⟩ => ⟨r, h1, h3, ((HB2.out.below hW).below h3).negate h2.out⟩)
  have C4 : Hid (∀ (W : World) (r : Bool), Below w2.heap.size w2 W → Rn L W r xb nb cb fb yb mb db gb (-b) → Calls Tryz.prog 55 #[.agg #[.bool sa, .slice xa na ca, .slice ya ma da], .agg #[.bool r, .slice xb nb cb, .slice yb mb db]] W fun e w' => ∃ s x n c f y m d g, e = .returned (.agg #[.bool s, .slice x n c, .slice y m d]) ∧ Below W.heap.size W w' ∧ Hid (Rn (2 * L + 1) w' s x n c f y m d g (a - b) ∧ Own .u64 28 w' (w.heap.size + 1 + 1 + 1) (.slice x n c) n f ∧ Own .u64 28 w' (w.heap.size + 1 + 1 + 1) (.slice y m d) m g ∧ Apart x y)) := fun W r hW hr => (ratadd_o (HA2.out.below hW) hr hL).mono (fun e w' ⟨s, x, n, c, f, y, m, d, g, h1, h2, h3⟩ => ⟨s, x, n, c, f, y, m, d, g, h1, h2, by have h4 := h3.1; rw [← Rat.sub_eq_add_neg] at h4; exact ⟨h4, h3.2.1.base (Nat.le_trans (show (w.heap.size + 1 + 1 + 1) ≤ w2.heap.size by omega) hW.size), h3.2.2.1.base (Nat.le_trans (show (w.heap.size + 1 + 1 + 1) ≤ w2.heap.size by omega) hW.size), h3.2.2.2⟩⟩)
  go_wp2_with fail
  go_region_held3 (fun w' => w'.cell? ⟨w.heap.size, 0, none⟩ = some (.bool sa) ∧ w'.cell? ⟨w.heap.size, 1, none⟩ = some (.slice xa na ca) ∧ w'.cell? ⟨w.heap.size, 2, none⟩ = some (.slice ya ma da) ∧ w'.cell? ⟨w.heap.size + 1, 0, none⟩ = some (.bool sb) ∧ w'.cell? ⟨w.heap.size + 1, 1, none⟩ = some (.slice xb nb cb) ∧ w'.cell? ⟨w.heap.size + 1, 2, none⟩ = some (.slice yb mb db) ∧ (w'.cell? ⟨w.heap.size + 1 + 1, 0, none⟩).isSome = true ∧ (w'.cell? ⟨w.heap.size + 1 + 1, 1, none⟩).isSome = true ∧ (w'.cell? ⟨w.heap.size + 1 + 1, 2, none⟩).isSome = true ∧ w'.frozen? ⟨w.heap.size + 1 + 1, 0, none⟩ = false ∧ w'.frozen? ⟨w.heap.size + 1 + 1, 1, none⟩ = false ∧ w'.frozen? ⟨w.heap.size + 1 + 1, 2, none⟩ = false)
    (refine ⟨?_, ?_, ?_, ?_, ?_, ?_, ?_, ?_, ?_, ?_, ?_, ?_⟩ <;> repeat (with_reducible first | assumption | exact zf _ | exact uf _ | exact vf' _ | exact kI0 z0 | exact kI0 z1 | exact kI0 z2 | exact kI0 u0 | exact kI0 u1 | exact kI0 u2 | exact kI0 v0 | exact kI0 v1 | exact kI0 v2 | refine kCd ?_ | refine kId ?_ | refine kFd ?_ | refine kCs (by simp only [ne_eq]; omega) ?_ | refine kIs ?_ | refine kFs ?_ | refine kCb (by assumption) ?_ | refine kIb (by assumption) ?_))
    (first
      | (go_at_call 52; with_reducible refine (C3.out _ (by repeat (with_reducible first | assumption | exact Below.refl _ _ | refine Below.drew ?_ | refine kBa ?_ | refine kBb (by assumption) ?_))).mono ?_; rintro e w3 ⟨r3, rfl, hb3, HR3⟩; have TU : Three w.heap.size w3 (.bool sa) (.slice xa na ca) (.slice ya ma da) (.bool sb) (.slice xb nb cb) (.slice yb mb db) (.bool false) (.slice none 0 0) (.slice none 0 0) := (by repeat (with_reducible first | exact T2.out | exact TU | refine kTd ?_ | refine kTb (by assumption) ?_)); obtain ⟨_, _, _, _, _, _, _, u0, u1, u2, uf⟩ := id TU)
      | (go_at_call 55; with_reducible refine (C4.out _ r3 (by repeat (with_reducible first | assumption | exact Below.refl _ _ | refine Below.drew ?_ | refine kBa ?_ | refine kBb (by assumption) ?_)) HR3.out).mono ?_; rintro e w4 ⟨rs, zn, kn, cn, fn, zd, kd, cd, fd, rfl, hb4, HR⟩; have TV : Three w.heap.size w4 (.bool sa) (.slice xa na ca) (.slice ya ma da) (.bool sb) (.slice xb nb cb) (.slice yb mb db) (.bool false) (.slice none 0 0) (.slice none 0 0) := (by repeat (with_reducible first | exact T2.out | exact TU | refine kTd ?_ | refine kTb (by assumption) ?_)); obtain ⟨_, _, _, _, _, _, _, v0, v1, v2, vf'⟩ := id TV))
  have hb : Below w2.heap.size w2 w4 := (by repeat (with_reducible first | assumption | exact Below.refl _ _ | refine Below.drew ?_ | refine kBa ?_ | refine kBb (by assumption) ?_))
  have HW4 := hid (HW2.out.trans (hb.mono HW2.out.size))
  go_wp2
  refine bodyPost_ret (v := .tuple #[.agg #[.bool rs, .slice zn kn cn, .slice zd kd cd], .int .i64 0]) (by simp [results, Tryz.results27, go_sem, v0, v1, v2]) rfl ⟨rs, zn, kn, cn, fn, zd, kd, cd, fd, rfl, below_store HW4.out, ⟨?_, ?_, HR.out.1.ln, HR.out.1.ld⟩, (own_st3 HR.out.2.1 (by omega)).base (by omega), (own_st3 HR.out.2.2.1 (by omega)).base (by omega), HR.out.2.2.2⟩
  · exact TV.store HR.out.1.num
  · exact TV.store HR.out.1.den

set_option maxRecDepth 100000 in
set_option maxHeartbeats 4000000 in
theorem rQuo_o {L : Nat} {w : World} {sa : Bool} {xa : Option Addr} {na ca : Nat} {fa : Nat → Int} {ya : Option Addr} {ma da : Nat} {ga : Nat → Int} {a : Rat} {sb : Bool} {xb : Option Addr} {nb cb : Nat} {fb : Nat → Int} {yb : Option Addr} {mb db : Nat} {gb : Nat → Int} {b : Rat} (ha : Rn L w sa xa na ca fa ya ma da ga a) (hb : Rn L w sb xb nb cb fb yb mb db gb b) (hL : L ≤ 200000) (h0 : 0 < nb) :
    Calls Tryz.prog 29 #[.agg #[.bool sa, .slice xa na ca, .slice ya ma da], .agg #[.bool sb, .slice xb nb cb, .slice yb mb db]] w fun e w' => RatTupO (2 * L + 1) w w' e (a / b) := by
  have HA0 := hid ha; have HB0 := hid hb
  clear ha hb
  go_enter Tryz.func29, Tryz.ntmps29
  go_wp2_with fail
  refine (rForm_n (((HA0.out.alloc _).alloc _).alloc _) (by omega)).mono ?_
  rintro e w1 ⟨rfl, hbel⟩
  obtain ⟨⟨hz, x0, x1, x2, y0, y1, y2, z0, z1, z2, zf⟩, hw⟩ := three_new hbel
  have T1 : Hid (Three w.heap.size w1 _ _ _ _ _ _ _ _ _) := ⟨hz, x0, x1, x2, y0, y1, y2, z0, z1, z2, zf⟩
  have HW1 := hid hw; have HA1 := hid (HA0.out.below hw); have HB1 := hid (HB0.out.below hw)
  clear hbel hw HA0 HB0
  go_wp2_with fail
  refine (rForm_n HB1.out (by omega)).mono ?_
  rintro e w2 ⟨rfl, hb⟩
  have HA2 := hid (HA1.out.below hb); have HB2 := hid (HB1.out.below hb); have T2 := hid (T1.out.below hb); have HW2 := hid (HW1.out.trans (hb.mono HW1.out.size))
  clear HA1 HB1 T1 HW1 hb
  clear hz x0 x1 x2 y0 y1 y2 z0 z1 z2 zf
  obtain ⟨hz, x0, x1, x2, y0, y1, y2, z0, z1, z2, zf⟩ := T2.out
  have hza : w.heap.size < w2.heap.size := by omega
  have hzb : w.heap.size + 1 < w2.heap.size := by omega
  have hn0 : ((nb : Int) == 0) = false := by simp; omega
  have H0 := hid h0
  clear h0
  have C3 : Hid (∀ (W : World), Below w2.heap.size w2 W → Calls Tryz.prog 52 #[.bool sb, .slice yb mb db, .slice xb nb cb] W fun e w' => ∃ r, e = .returned (.agg #[.bool r, .slice yb mb db, .slice xb nb cb]) ∧ Below W.heap.size W w' ∧ Hid (Rn L w' r yb mb db gb xb nb cb fb b⁻¹)) := fun W hW => (rsigned_c _ yb xb mb db nb cb W (by have := HB2.out.num.cap; have := HB2.out.den.cap; omega)).mono (fun e w' ⟨r, h1, h2, h3⟩ => ⟨r, h1, h3, ((HB2.out.below hW).below h3).invert H0.out h2.out⟩)
  have C4 : Hid (∀ (W : World) (r : Bool), Below w2.heap.size w2 W → Rn L W r yb mb db gb xb nb cb fb b⁻¹ → Calls Tryz.prog 68 #[.agg #[.bool sa, .slice xa na ca, .slice ya ma da], .agg #[.bool r, .slice yb mb db, .slice xb nb cb]] W fun e w' => ∃ s x n c f y m d g, e = .returned (.agg #[.bool s, .slice x n c, .slice y m d]) ∧ Below W.heap.size W w' ∧ Hid (Rn (2 * L + 1) w' s x n c f y m d g (a / b) ∧ Own .u64 28 w' (w.heap.size + 1 + 1 + 1) (.slice x n c) n f ∧ Own .u64 28 w' (w.heap.size + 1 + 1 + 1) (.slice y m d) m g ∧ Apart x y)) := fun W r hW hr => (ratmul_o (HA2.out.below hW) hr hL).mono (fun e w' ⟨s, x, n, c, f, y, m, d, g, h1, h2, h3⟩ => ⟨s, x, n, c, f, y, m, d, g, h1, h2, by have h4 := h3.1; rw [← Rat.div_def] at h4; exact ⟨h4, h3.2.1.base (Nat.le_trans (show (w.heap.size + 1 + 1 + 1) ≤ w2.heap.size by omega) hW.size), h3.2.2.1.base (Nat.le_trans (show (w.heap.size + 1 + 1 + 1) ≤ w2.heap.size by omega) hW.size), h3.2.2.2⟩⟩)
  go_wp2_with fail
  go_region_held3 (fun w' => w'.cell? ⟨w.heap.size, 0, none⟩ = some (.bool sa) ∧ w'.cell? ⟨w.heap.size, 1, none⟩ = some (.slice xa na ca) ∧ w'.cell? ⟨w.heap.size, 2, none⟩ = some (.slice ya ma da) ∧ w'.cell? ⟨w.heap.size + 1, 0, none⟩ = some (.bool sb) ∧ w'.cell? ⟨w.heap.size + 1, 1, none⟩ = some (.slice xb nb cb) ∧ w'.cell? ⟨w.heap.size + 1, 2, none⟩ = some (.slice yb mb db) ∧ (w'.cell? ⟨w.heap.size + 1 + 1, 0, none⟩).isSome = true ∧ (w'.cell? ⟨w.heap.size + 1 + 1, 1, none⟩).isSome = true ∧ (w'.cell? ⟨w.heap.size + 1 + 1, 2, none⟩).isSome = true ∧ w'.frozen? ⟨w.heap.size + 1 + 1, 0, none⟩ = false ∧ w'.frozen? ⟨w.heap.size + 1 + 1, 1, none⟩ = false ∧ w'.frozen? ⟨w.heap.size + 1 + 1, 2, none⟩ = false)
    (refine ⟨?_, ?_, ?_, ?_, ?_, ?_, ?_, ?_, ?_, ?_, ?_, ?_⟩ <;> repeat (with_reducible first | assumption | exact zf _ | exact uf _ | exact vf' _ | exact kI0 z0 | exact kI0 z1 | exact kI0 z2 | exact kI0 u0 | exact kI0 u1 | exact kI0 u2 | exact kI0 v0 | exact kI0 v1 | exact kI0 v2 | refine kCd ?_ | refine kId ?_ | refine kFd ?_ | refine kCs (by simp only [ne_eq]; omega) ?_ | refine kIs ?_ | refine kFs ?_ | refine kCb (by assumption) ?_ | refine kIb (by assumption) ?_))
    (first
      | (go_at_call 52; with_reducible refine (C3.out _ (by repeat (with_reducible first | assumption | exact Below.refl _ _ | refine Below.drew ?_ | refine kBa ?_ | refine kBb (by assumption) ?_))).mono ?_; rintro e w3 ⟨r3, rfl, hb3, HR3⟩; have TU : Three w.heap.size w3 (.bool sa) (.slice xa na ca) (.slice ya ma da) (.bool sb) (.slice xb nb cb) (.slice yb mb db) (.bool false) (.slice none 0 0) (.slice none 0 0) := (by repeat (with_reducible first | exact T2.out | exact TU | refine kTd ?_ | refine kTb (by assumption) ?_)); obtain ⟨_, _, _, _, _, _, _, u0, u1, u2, uf⟩ := id TU)
      | (go_at_call 68; with_reducible refine (C4.out _ r3 (by repeat (with_reducible first | assumption | exact Below.refl _ _ | refine Below.drew ?_ | refine kBa ?_ | refine kBb (by assumption) ?_)) HR3.out).mono ?_; rintro e w4 ⟨rs, zn, kn, cn, fn, zd, kd, cd, fd, rfl, hb4, HR⟩; have TV : Three w.heap.size w4 (.bool sa) (.slice xa na ca) (.slice ya ma da) (.bool sb) (.slice xb nb cb) (.slice yb mb db) (.bool false) (.slice none 0 0) (.slice none 0 0) := (by repeat (with_reducible first | exact T2.out | exact TU | refine kTd ?_ | refine kTb (by assumption) ?_)); obtain ⟨_, _, _, _, _, _, _, v0, v1, v2, vf'⟩ := id TV))
  have hb : Below w2.heap.size w2 w4 := (by repeat (with_reducible first | assumption | exact Below.refl _ _ | refine Below.drew ?_ | refine kBa ?_ | refine kBb (by assumption) ?_))
  have HW4 := hid (HW2.out.trans (hb.mono HW2.out.size))
  go_wp2
  refine bodyPost_ret (v := .tuple #[.agg #[.bool rs, .slice zn kn cn, .slice zd kd cd], .int .i64 0]) (by simp [results, Tryz.results29, go_sem, v0, v1, v2]) rfl ⟨rs, zn, kn, cn, fn, zd, kd, cd, fd, rfl, below_store HW4.out, ⟨?_, ?_, HR.out.1.ln, HR.out.1.ld⟩, (own_st3 HR.out.2.1 (by omega)).base (by omega), (own_st3 HR.out.2.2.1 (by omega)).base (by omega), HR.out.2.2.2⟩
  · exact TV.store HR.out.1.num
  · exact TV.store HR.out.1.den
end Go.Proofs.YtlpmfmphglgocaaGreatDoor
namespace Go.Proofs.YtlpmfmphglgocaaGreatDoor
open Go.RowKit

set_option maxHeartbeats 1000000 in
theorem rlight2_c (sa : Bool) (xa ya : Option Addr) (na ca ma da : Nat) (sb : Bool) (xb yb : Option Addr) (nb cb mb db : Nat) (w : World) (l1 : na ≤ 9223372036854775807) (l2 : ma ≤ 9223372036854775807) (l3 : nb ≤ 9223372036854775807) (l4 : mb ≤ 9223372036854775807) :
    Calls Tryz.prog 6 #[.agg #[.bool sa, .slice xa na ca, .slice ya ma da], .agg #[.bool sb, .slice xb nb cb, .slice yb mb db]] w fun e w' => e = .returned (.bool (lg na ma 20 && lg nb mb 20)) ∧ Below w.heap.size w w' := by
  go_enter Tryz.func6, Tryz.ntmps6
  go_wp2_with fail
  refine (rLight_c sa xa ya na ca ma da _ l1 l2).mono ?_
  rintro e w1 ⟨rfl, hb⟩
  obtain ⟨⟨za, x0, x1, x2⟩, ⟨zb, y0, y1, y2⟩, hw⟩ := two_new hb
  have HW1 := hid hw
  clear hb hw
  cases h1 : lg na ma 20
  · have E : Hid ((lg na ma 20 && lg nb mb 20) = false) := hid (by rw [h1]; rfl)
    go_wp2
    go_ret
    exact ⟨by rw [E.out]; rfl, HW1.out⟩
  · have E : Hid ((lg na ma 20 && lg nb mb 20) = lg nb mb 20) := hid (by rw [h1]; rfl)
    clear h1
    go_wp2_with fail
    refine (rLight_c sb xb yb nb cb mb db _ l3 l4).mono ?_
    rintro e w2 ⟨rfl, hb⟩
    go_wp2
    go_ret
    exact ⟨by rw [E.out]; rfl, HW1.out.trans (hb.mono HW1.out.size)⟩
end Go.Proofs.YtlpmfmphglgocaaGreatDoor
namespace Go.Proofs.YtlpmfmphglgocaaGreatDoor
open Go.RowKit

theorem Ob2.drew {w B} (h : Ob2 w B) : Ob2 w.drew B := ⟨h.z, h.z0, h.z1, h.zf⟩
theorem Ob2.alloc {w B} (h : Ob2 w B) (o : Obj) : Ob2 (w.alloc o) B := h.below (below_alloc (Below.refl _ _) o)
theorem Ob2.next {w w' B} {o : Obj} (h : Ob2 w B) (hb : Below (w.alloc o).heap.size (w.alloc o) w') : Ob2 w' B := (h.alloc o).below hb
theorem Ob2.dn {w B u0 u1 x n d V} (h : Ob2 w B) (hx : Dn w x n d V) : Dn ((w.setCell ⟨B, 0, none⟩ u0).setCell ⟨B, 1, none⟩ u1) x n d V :=
  ⟨rd_setne (cell_off (by decide) h.z1) (fun i h => by cases h) (rd_setne h.z0 (fun i h => by cases h) hx.rd), hx.dg, hx.fm, hx.val⟩
end Go.Proofs.YtlpmfmphglgocaaGreatDoor
namespace Go.Proofs.YtlpmfmphglgocaaGreatDoor
open Go.RowKit

/-- A box that holds a sign and a list, and may be written. -/
structure X2 (w : World) (B : Nat) (s : Bool) (x : Option Addr) (n c : Nat) : Prop where
  z : B < w.heap.size
  c0 : w.cell? ⟨B, 0, none⟩ = some (.bool s)
  c1 : w.cell? ⟨B, 1, none⟩ = some (.slice x n c)
  zf : ∀ o, w.frozen? ⟨B, o, none⟩ = false
theorem X2.below {w w' B s x n c} (h : X2 w B s x n c) (hb : Below w.heap.size w w') : X2 w' B s x n c := by
  obtain ⟨h1, h2⟩ := bcell hb
  exact ⟨Nat.lt_of_lt_of_le h.z hb.size, kCb hb h.c0, kCb hb h.c1, fun o => (h2 _ _ h.z).trans (h.zf o)⟩
/-- A number stored into such a box. -/
theorem X2.put {w B s x n c} (h : X2 w B s x n c) (r : Bool) (y : Option Addr) (m d : Nat) : X2 ((w.setCell ⟨B, 0, none⟩ (.bool r)).setCell ⟨B, 1, none⟩ (.slice y m d)) B r y m d :=
  ⟨by simpa [World.setCell] using h.z, kCo (by decide) (kCe (kI0 h.c0)), kCe (kIs (kI0 h.c1)), fun o => kFs (kFs (h.zf o))⟩
theorem X2.dn {w B s x n c u0 u1 y m d V} (h : X2 w B s x n c) (hx : Dn w y m d V) : Dn ((w.setCell ⟨B, 0, none⟩ u0).setCell ⟨B, 1, none⟩ u1) y m d V :=
  ⟨rd_setne (cell_off (by decide) h.c1) (fun i h => by cases h) (rd_setne h.c0 (fun i h => by cases h) hx.rd), hx.dg, hx.fm, hx.val⟩
theorem X2.zn {w B s x n c u0 u1 t y m d v} (h : X2 w B s x n c) (hx : Zn w t y m d v) : Zn ((w.setCell ⟨B, 0, none⟩ u0).setCell ⟨B, 1, none⟩ u1) t y m d v := ⟨h.dn hx.dn, hx.sgn, hx.pos⟩
theorem X2.drew {w B s x n c} (h : X2 w B s x n c) : X2 w.drew B s x n c := ⟨h.z, h.c0, h.c1, h.zf⟩
theorem Ob2.x2 {w B} (h : Ob2 w B) : X2 w B false none 0 0 := ⟨h.z, h.z0, h.z1, h.zf⟩
theorem Ob2.far {w B B' u0 u1} (h : Ob2 w B) (hB : B' ≠ B) : Ob2 ((w.setCell ⟨B', 0, none⟩ u0).setCell ⟨B', 1, none⟩ u1) B := ⟨by simpa [World.setCell] using h.z, kCs hB (kCs hB h.z0), kCs hB (kCs hB h.z1), fun o => kFs (kFs (h.zf o))⟩
theorem Bx.far {w B B' u0 u1 s x n c} (h : Bx w B s x n c) (hB : B' ≠ B) : Bx ((w.setCell ⟨B', 0, none⟩ u0).setCell ⟨B', 1, none⟩ u1) B s x n c := by
  obtain ⟨z, c0, c1⟩ := h
  exact ⟨by simpa [World.setCell] using z, kCs hB (kCs hB c0), kCs hB (kCs hB c1)⟩
end Go.Proofs.YtlpmfmphglgocaaGreatDoor
namespace Go.Proofs.YtlpmfmphglgocaaGreatDoor
open Go.RowKit

theorem qbox2 {w : World} (a0 a1 a2 b0 b1 b2 : Value) (t : TypeId) :
    Bx3 (((w.alloc (.cells #[a0, a1, a2] t)).alloc (.cells #[b0, b1, b2] t)).alloc (.cells #[.bool false, .slice none 0 0, .slice none 0 0] t)) w.heap.size a0 a1 a2 ∧ Bx3 (((w.alloc (.cells #[a0, a1, a2] t)).alloc (.cells #[b0, b1, b2] t)).alloc (.cells #[.bool false, .slice none 0 0, .slice none 0 0] t)) (w.heap.size + 1) b0 b1 b2 ∧ Ob (((w.alloc (.cells #[a0, a1, a2] t)).alloc (.cells #[b0, b1, b2] t)).alloc (.cells #[.bool false, .slice none 0 0, .slice none 0 0] t)) (w.heap.size + 1 + 1) ∧ Below w.heap.size w (((w.alloc (.cells #[a0, a1, a2] t)).alloc (.cells #[b0, b1, b2] t)).alloc (.cells #[.bool false, .slice none 0 0, .slice none 0 0] t)) := by
  have h1 := bx3_at w a0 a1 a2 t
  have h2 := bx3_at (w.alloc (.cells #[a0, a1, a2] t)) b0 b1 b2 t
  rw [size_alloc1] at h2
  have h3 := ob_new ((w.alloc (.cells #[a0, a1, a2] t)).alloc (.cells #[b0, b1, b2] t)) t
  rw [size_alloc1, size_alloc1] at h3
  exact ⟨(h1.alloc _).alloc _, h2.alloc _, h3, below_alloc (below_alloc (below_alloc (Below.refl w.heap.size w) _) _) _⟩
end Go.Proofs.YtlpmfmphglgocaaGreatDoor
namespace Go.Proofs.YtlpmfmphglgocaaGreatDoor
open Go.RowKit

set_option maxRecDepth 100000 in
set_option maxHeartbeats 4000000 in
theorem rAddErr_c {w : World} {sa : Bool} {xa : Option Addr} {na ca : Nat} {fa : Nat → Int} {ya : Option Addr} {ma ea : Nat} {ga : Nat → Int} {sb : Bool} {xb : Option Addr} {nb cb : Nat} {fb : Nat → Int} {yb : Option Addr} {mb eb : Nat} {gb : Nat → Int} (ha : Rw w xa na ca fa ya ma ea ga) (hb : Rw w xb nb cb fb yb mb eb gb) (hna : na ≤ 1000) (hma : ma ≤ 1000) (hnb : nb ≤ 1000) (hmb : mb ≤ 1000) (hp : (rfB sa fa na ga ma && rfB sb fb nb gb mb) = false) :
    Calls Tryz.prog 19 #[.agg #[.bool sa, .slice xa na ca, .slice ya ma ea], .agg #[.bool sb, .slice xb nb cb, .slice yb mb eb]] w fun en w' => en = .returned (.tuple #[.agg #[.bool false, .slice none 0 0, .slice none 0 0], .int .i64 3]) ∧ Below w.heap.size w w' := by
  obtain ⟨h1, h2, h3, h4⟩ := qbox2 (w := w) (.bool sa) (.slice xa na ca) (.slice ya ma ea) (.bool sb) (.slice xb nb cb) (.slice yb mb eb) 24
  have h5 := ha.below h4
  have h6 := hb.below h4
  clear ha hb
  go_enter Tryz.func19, Tryz.ntmps19
  go_wp2_with fail
  generalize ((w.alloc (.cells #[.bool sa, .slice xa na ca, .slice ya ma ea] 24)).alloc (.cells #[.bool sb, .slice xb nb cb, .slice yb mb eb] 24)).alloc (.cells #[.bool false, .slice none 0 0, .slice none 0 0] 24) = w1 at *
  have HRA := hid h5; have HRB := hid h6; have HW := hid h4; have BA := hid h1; have BB := hid h2; have OB := hid h3
  clear h1 h2 h3 h4 h5 h6
  have c1 := rForm_c (s := sa) HRA.out (by omega) (by omega)
  cases h1 : rfB sa fa na ga ma
  · rw [h1] at c1
    refine c1.mono ?_
    rintro en w2 ⟨rfl, hb⟩
    have HB := hid (HW.out.trans (hb.mono HW.out.size))
    obtain ⟨hz, z0, z1, z2, zf⟩ := OB.out.below hb
    clear c1 hb hp
    go_wp2
    exact bodyPost_ret (v := .tuple #[.agg #[.bool false, .slice none 0 0, .slice none 0 0], .int .i64 3]) (by simp [results, Tryz.results19, go_sem, z0, z1, z2]) rfl ⟨rfl, below_st HB.out (by omega)⟩
  rw [h1] at c1
  refine c1.mono ?_
  rintro en w2 ⟨rfl, hb⟩
  have h2 : rfB sb fb nb gb mb = false := by rw [h1] at hp; simpa using hp
  have HB2 := hid hb
  clear c1 hb hp h1
  obtain ⟨zb, b0, b1, b2⟩ := BB.out.below HB2.out
  have c2 := rForm_c (s := sb) (HRB.out.below HB2.out) (by omega) (by omega)
  rw [h2] at c2
  go_wp2_with fail
  refine c2.mono ?_
  rintro en w3 ⟨rfl, hb⟩
  have HB3 := hid (HB2.out.trans (hb.mono HB2.out.size))
  have HB := hid (HW.out.trans (HB3.out.mono HW.out.size))
  obtain ⟨hz, z0, z1, z2, zf⟩ := OB.out.below HB3.out
  clear c2 hb h2 zb b0 b1 b2
  go_wp2
  exact bodyPost_ret (v := .tuple #[.agg #[.bool false, .slice none 0 0, .slice none 0 0], .int .i64 3]) (by simp [results, Tryz.results19, go_sem, z0, z1, z2]) rfl ⟨rfl, below_st HB.out (by omega)⟩

set_option maxRecDepth 100000 in
set_option maxHeartbeats 4000000 in
theorem rSubErr_c {w : World} {sa : Bool} {xa : Option Addr} {na ca : Nat} {fa : Nat → Int} {ya : Option Addr} {ma ea : Nat} {ga : Nat → Int} {sb : Bool} {xb : Option Addr} {nb cb : Nat} {fb : Nat → Int} {yb : Option Addr} {mb eb : Nat} {gb : Nat → Int} (ha : Rw w xa na ca fa ya ma ea ga) (hb : Rw w xb nb cb fb yb mb eb gb) (hna : na ≤ 1000) (hma : ma ≤ 1000) (hnb : nb ≤ 1000) (hmb : mb ≤ 1000) (hp : (rfB sa fa na ga ma && rfB sb fb nb gb mb) = false) :
    Calls Tryz.prog 27 #[.agg #[.bool sa, .slice xa na ca, .slice ya ma ea], .agg #[.bool sb, .slice xb nb cb, .slice yb mb eb]] w fun en w' => en = .returned (.tuple #[.agg #[.bool false, .slice none 0 0, .slice none 0 0], .int .i64 3]) ∧ Below w.heap.size w w' := by
  obtain ⟨h1, h2, h3, h4⟩ := qbox2 (w := w) (.bool sa) (.slice xa na ca) (.slice ya ma ea) (.bool sb) (.slice xb nb cb) (.slice yb mb eb) 24
  have h5 := ha.below h4
  have h6 := hb.below h4
  clear ha hb
  go_enter Tryz.func27, Tryz.ntmps27
  go_wp2_with fail
  generalize ((w.alloc (.cells #[.bool sa, .slice xa na ca, .slice ya ma ea] 24)).alloc (.cells #[.bool sb, .slice xb nb cb, .slice yb mb eb] 24)).alloc (.cells #[.bool false, .slice none 0 0, .slice none 0 0] 24) = w1 at *
  have HRA := hid h5; have HRB := hid h6; have HW := hid h4; have BA := hid h1; have BB := hid h2; have OB := hid h3
  clear h1 h2 h3 h4 h5 h6
  have c1 := rForm_c (s := sa) HRA.out (by omega) (by omega)
  cases h1 : rfB sa fa na ga ma
  · rw [h1] at c1
    refine c1.mono ?_
    rintro en w2 ⟨rfl, hb⟩
    have HB := hid (HW.out.trans (hb.mono HW.out.size))
    obtain ⟨hz, z0, z1, z2, zf⟩ := OB.out.below hb
    clear c1 hb hp
    go_wp2
    exact bodyPost_ret (v := .tuple #[.agg #[.bool false, .slice none 0 0, .slice none 0 0], .int .i64 3]) (by simp [results, Tryz.results27, go_sem, z0, z1, z2]) rfl ⟨rfl, below_st HB.out (by omega)⟩
  rw [h1] at c1
  refine c1.mono ?_
  rintro en w2 ⟨rfl, hb⟩
  have h2 : rfB sb fb nb gb mb = false := by rw [h1] at hp; simpa using hp
  have HB2 := hid hb
  clear c1 hb hp h1
  obtain ⟨zb, b0, b1, b2⟩ := BB.out.below HB2.out
  have c2 := rForm_c (s := sb) (HRB.out.below HB2.out) (by omega) (by omega)
  rw [h2] at c2
  go_wp2_with fail
  refine c2.mono ?_
  rintro en w3 ⟨rfl, hb⟩
  have HB3 := hid (HB2.out.trans (hb.mono HB2.out.size))
  have HB := hid (HW.out.trans (HB3.out.mono HW.out.size))
  obtain ⟨hz, z0, z1, z2, zf⟩ := OB.out.below HB3.out
  clear c2 hb h2 zb b0 b1 b2
  go_wp2
  exact bodyPost_ret (v := .tuple #[.agg #[.bool false, .slice none 0 0, .slice none 0 0], .int .i64 3]) (by simp [results, Tryz.results27, go_sem, z0, z1, z2]) rfl ⟨rfl, below_st HB.out (by omega)⟩

set_option maxRecDepth 100000 in
set_option maxHeartbeats 4000000 in
theorem rMulErr_c {w : World} {sa : Bool} {xa : Option Addr} {na ca : Nat} {fa : Nat → Int} {ya : Option Addr} {ma ea : Nat} {ga : Nat → Int} {sb : Bool} {xb : Option Addr} {nb cb : Nat} {fb : Nat → Int} {yb : Option Addr} {mb eb : Nat} {gb : Nat → Int} (ha : Rw w xa na ca fa ya ma ea ga) (hb : Rw w xb nb cb fb yb mb eb gb) (hna : na ≤ 1000) (hma : ma ≤ 1000) (hnb : nb ≤ 1000) (hmb : mb ≤ 1000) (hp : (rfB sa fa na ga ma && rfB sb fb nb gb mb) = false) :
    Calls Tryz.prog 28 #[.agg #[.bool sa, .slice xa na ca, .slice ya ma ea], .agg #[.bool sb, .slice xb nb cb, .slice yb mb eb]] w fun en w' => en = .returned (.tuple #[.agg #[.bool false, .slice none 0 0, .slice none 0 0], .int .i64 3]) ∧ Below w.heap.size w w' := by
  obtain ⟨h1, h2, h3, h4⟩ := qbox2 (w := w) (.bool sa) (.slice xa na ca) (.slice ya ma ea) (.bool sb) (.slice xb nb cb) (.slice yb mb eb) 24
  have h5 := ha.below h4
  have h6 := hb.below h4
  clear ha hb
  go_enter Tryz.func28, Tryz.ntmps28
  go_wp2_with fail
  generalize ((w.alloc (.cells #[.bool sa, .slice xa na ca, .slice ya ma ea] 24)).alloc (.cells #[.bool sb, .slice xb nb cb, .slice yb mb eb] 24)).alloc (.cells #[.bool false, .slice none 0 0, .slice none 0 0] 24) = w1 at *
  have HRA := hid h5; have HRB := hid h6; have HW := hid h4; have BA := hid h1; have BB := hid h2; have OB := hid h3
  clear h1 h2 h3 h4 h5 h6
  have c1 := rForm_c (s := sa) HRA.out (by omega) (by omega)
  cases h1 : rfB sa fa na ga ma
  · rw [h1] at c1
    refine c1.mono ?_
    rintro en w2 ⟨rfl, hb⟩
    have HB := hid (HW.out.trans (hb.mono HW.out.size))
    obtain ⟨hz, z0, z1, z2, zf⟩ := OB.out.below hb
    clear c1 hb hp
    go_wp2
    exact bodyPost_ret (v := .tuple #[.agg #[.bool false, .slice none 0 0, .slice none 0 0], .int .i64 3]) (by simp [results, Tryz.results28, go_sem, z0, z1, z2]) rfl ⟨rfl, below_st HB.out (by omega)⟩
  rw [h1] at c1
  refine c1.mono ?_
  rintro en w2 ⟨rfl, hb⟩
  have h2 : rfB sb fb nb gb mb = false := by rw [h1] at hp; simpa using hp
  have HB2 := hid hb
  clear c1 hb hp h1
  obtain ⟨zb, b0, b1, b2⟩ := BB.out.below HB2.out
  have c2 := rForm_c (s := sb) (HRB.out.below HB2.out) (by omega) (by omega)
  rw [h2] at c2
  go_wp2_with fail
  refine c2.mono ?_
  rintro en w3 ⟨rfl, hb⟩
  have HB3 := hid (HB2.out.trans (hb.mono HB2.out.size))
  have HB := hid (HW.out.trans (HB3.out.mono HW.out.size))
  obtain ⟨hz, z0, z1, z2, zf⟩ := OB.out.below HB3.out
  clear c2 hb h2 zb b0 b1 b2
  go_wp2
  exact bodyPost_ret (v := .tuple #[.agg #[.bool false, .slice none 0 0, .slice none 0 0], .int .i64 3]) (by simp [results, Tryz.results28, go_sem, z0, z1, z2]) rfl ⟨rfl, below_st HB.out (by omega)⟩

set_option maxRecDepth 100000 in
set_option maxHeartbeats 4000000 in
theorem rQuoErr_c {w : World} {sa : Bool} {xa : Option Addr} {na ca : Nat} {fa : Nat → Int} {ya : Option Addr} {ma ea : Nat} {ga : Nat → Int} {sb : Bool} {xb : Option Addr} {nb cb : Nat} {fb : Nat → Int} {yb : Option Addr} {mb eb : Nat} {gb : Nat → Int} (ha : Rw w xa na ca fa ya ma ea ga) (hb : Rw w xb nb cb fb yb mb eb gb) (hna : na ≤ 1000) (hma : ma ≤ 1000) (hnb : nb ≤ 1000) (hmb : mb ≤ 1000) (hp : (rfB sa fa na ga ma && rfB sb fb nb gb mb) = false) :
    Calls Tryz.prog 29 #[.agg #[.bool sa, .slice xa na ca, .slice ya ma ea], .agg #[.bool sb, .slice xb nb cb, .slice yb mb eb]] w fun en w' => en = .returned (.tuple #[.agg #[.bool false, .slice none 0 0, .slice none 0 0], .int .i64 3]) ∧ Below w.heap.size w w' := by
  obtain ⟨h1, h2, h3, h4⟩ := qbox2 (w := w) (.bool sa) (.slice xa na ca) (.slice ya ma ea) (.bool sb) (.slice xb nb cb) (.slice yb mb eb) 24
  have h5 := ha.below h4
  have h6 := hb.below h4
  clear ha hb
  go_enter Tryz.func29, Tryz.ntmps29
  go_wp2_with fail
  generalize ((w.alloc (.cells #[.bool sa, .slice xa na ca, .slice ya ma ea] 24)).alloc (.cells #[.bool sb, .slice xb nb cb, .slice yb mb eb] 24)).alloc (.cells #[.bool false, .slice none 0 0, .slice none 0 0] 24) = w1 at *
  have HRA := hid h5; have HRB := hid h6; have HW := hid h4; have BA := hid h1; have BB := hid h2; have OB := hid h3
  clear h1 h2 h3 h4 h5 h6
  have c1 := rForm_c (s := sa) HRA.out (by omega) (by omega)
  cases h1 : rfB sa fa na ga ma
  · rw [h1] at c1
    refine c1.mono ?_
    rintro en w2 ⟨rfl, hb⟩
    have HB := hid (HW.out.trans (hb.mono HW.out.size))
    obtain ⟨hz, z0, z1, z2, zf⟩ := OB.out.below hb
    clear c1 hb hp
    go_wp2
    exact bodyPost_ret (v := .tuple #[.agg #[.bool false, .slice none 0 0, .slice none 0 0], .int .i64 3]) (by simp [results, Tryz.results29, go_sem, z0, z1, z2]) rfl ⟨rfl, below_st HB.out (by omega)⟩
  rw [h1] at c1
  refine c1.mono ?_
  rintro en w2 ⟨rfl, hb⟩
  have h2 : rfB sb fb nb gb mb = false := by rw [h1] at hp; simpa using hp
  have HB2 := hid hb
  clear c1 hb hp h1
  obtain ⟨zb, b0, b1, b2⟩ := BB.out.below HB2.out
  have c2 := rForm_c (s := sb) (HRB.out.below HB2.out) (by omega) (by omega)
  rw [h2] at c2
  go_wp2_with fail
  refine c2.mono ?_
  rintro en w3 ⟨rfl, hb⟩
  have HB3 := hid (HB2.out.trans (hb.mono HB2.out.size))
  have HB := hid (HW.out.trans (HB3.out.mono HW.out.size))
  obtain ⟨hz, z0, z1, z2, zf⟩ := OB.out.below HB3.out
  clear c2 hb h2 zb b0 b1 b2
  go_wp2
  exact bodyPost_ret (v := .tuple #[.agg #[.bool false, .slice none 0 0, .slice none 0 0], .int .i64 3]) (by simp [results, Tryz.results29, go_sem, z0, z1, z2]) rfl ⟨rfl, below_st HB.out (by omega)⟩

set_option maxRecDepth 100000 in
set_option maxHeartbeats 4000000 in
theorem rNegErr_c {w : World} {s : Bool} {x : Option Addr} {n c : Nat} {f : Nat → Int} {y : Option Addr} {m e : Nat} {g : Nat → Int} (h : Rw w x n c f y m e g) (hn : n ≤ 1000) (hm : m ≤ 1000) (hp : rfB s f n g m = false) :
    Calls Tryz.prog 30 #[.agg #[.bool s, .slice x n c, .slice y m e]] w fun en w' => en = .returned (.tuple #[.agg #[.bool false, .slice none 0 0, .slice none 0 0], .int .i64 3]) ∧ Below w.heap.size w w' := by
  obtain ⟨h1, h2, h3⟩ := qbox1 (w := w) (.bool s) (.slice x n c) (.slice y m e) 24 24
  have h5 := h.below h3
  clear h
  go_enter Tryz.func30, Tryz.ntmps30
  go_wp2_with fail
  generalize (w.alloc (.cells #[.bool s, .slice x n c, .slice y m e] 24)).alloc (.cells #[.bool false, .slice none 0 0, .slice none 0 0] 24) = w1 at *
  have HR := hid h5; have HW := hid h3; have BX := hid h1; have OB := hid h2
  clear h1 h2 h3 h5
  have c1 := rForm_c (s := s) HR.out (by omega) (by omega)
  rw [hp] at c1
  refine c1.mono ?_
  rintro en w2 ⟨rfl, hb⟩
  have HB := hid (HW.out.trans (hb.mono HW.out.size))
  obtain ⟨hz, z0, z1, z2, zf⟩ := OB.out.below hb
  clear c1 hb hp
  go_wp2
  exact bodyPost_ret (v := .tuple #[.agg #[.bool false, .slice none 0 0, .slice none 0 0], .int .i64 3]) (by simp [results, Tryz.results30, go_sem, z0, z1, z2]) rfl ⟨rfl, below_st HB.out (by omega)⟩

end Go.Proofs.YtlpmfmphglgocaaGreatDoor
namespace Go.Proofs.YtlpmfmphglgocaaGreatDoor
open Go.RowKit

theorem Ob.far {w B B' u0 u1 u2} (h : Ob w B) (hB : B' ≠ B) : Ob (((w.setCell ⟨B', 0, none⟩ u0).setCell ⟨B', 1, none⟩ u1).setCell ⟨B', 2, none⟩ u2) B := ⟨by rw [size_st3]; exact h.z, kCs hB (kCs hB (kCs hB h.z0)), kCs hB (kCs hB (kCs hB h.z1)), kCs hB (kCs hB (kCs hB h.z2)), fun o => kFs (kFs (kFs (h.zf o)))⟩
theorem Bx3.far {w B B' u0 u1 u2 a0 a1 a2} (h : Bx3 w B a0 a1 a2) (hB : B' ≠ B) : Bx3 (((w.setCell ⟨B', 0, none⟩ u0).setCell ⟨B', 1, none⟩ u1).setCell ⟨B', 2, none⟩ u2) B a0 a1 a2 := ⟨by rw [size_st3]; exact h.z, kCs hB (kCs hB (kCs hB h.x0)), kCs hB (kCs hB (kCs hB h.x1)), kCs hB (kCs hB (kCs hB h.x2))⟩
theorem bx3_next (w : World) (o : Obj) (a0 a1 a2 : Value) (t : TypeId) : Bx3 ((w.alloc o).alloc (.cells #[a0, a1, a2] t)) (w.heap.size + 1) a0 a1 a2 := by
  have := bx3_at (w.alloc o) a0 a1 a2 t
  rw [size_alloc1] at this; exact this
theorem bx3_st (w : World) (B : Nat) (u0 u1 u2 a0 a1 a2 : Value) (t : TypeId) : Bx3 ((((w.setCell ⟨B, 0, none⟩ u0).setCell ⟨B, 1, none⟩ u1).setCell ⟨B, 2, none⟩ u2).alloc (.cells #[a0, a1, a2] t)) w.heap.size a0 a1 a2 := by
  have := bx3_at (((w.setCell ⟨B, 0, none⟩ u0).setCell ⟨B, 1, none⟩ u1).setCell ⟨B, 2, none⟩ u2) a0 a1 a2 t
  rw [size_st3] at this; exact this
theorem ob_at {w : World} {t : TypeId} {B : Nat} (h : B = w.heap.size) : Ob (w.alloc (.cells #[.bool false, .slice none 0 0, .slice none 0 0] t)) B := by subst h; exact ob_new w t
theorem kObA {w : World} {B : Nat} {o : Obj} (h : Ob w B) : Ob (w.alloc o) B := h.alloc o
end Go.Proofs.YtlpmfmphglgocaaGreatDoor
namespace Go.Proofs.YtlpmfmphglgocaaGreatDoor
open Go.RowKit

/-- What a call of the four kinds answers. -/
def OQ (p : Bool) (kind : Nat) (qa qb : Rat) (w' : World) (s : Bool) (x : Option Addr) (n c : Nat) (f : Nat → Int) (y : Option Addr) (m d : Nat) (g : Nat → Int) (er : Int) : Prop :=
  p = false ∧ er = 3 ∧ n = 0 ∧ m = 0 ∧ s = false ∨ p = true ∧ (kind = 3 ∧ qb.num = 0) ∧ er = 4 ∧ n = 0 ∧ m = 0 ∧ s = false ∨ p = true ∧ ¬ (kind = 3 ∧ qb.num = 0) ∧ er = 0 ∧ Rn 2000 w' s x n c f y m d g (kq kind qa qb)
theorem OQ.st {p kind qa qb w' s x n c f y m d g er B u0 u1 u2} (h : OQ p kind qa qb w' s x n c f y m d g er) (hB : Ob w' B) : OQ p kind qa qb (((w'.setCell ⟨B, 0, none⟩ u0).setCell ⟨B, 1, none⟩ u1).setCell ⟨B, 2, none⟩ u2) s x n c f y m d g er := by
  rcases h with h | h | ⟨h1, h2, h3, h4⟩
  · exact .inl h
  · exact .inr (.inl h)
  · exact .inr (.inr ⟨h1, h2, h3, hB.rn h4⟩)
set_option maxRecDepth 100000 in
set_option maxHeartbeats 4000000 in
theorem rQuoZero_c {w : World} {sa : Bool} {xa : Option Addr} {na ca : Nat} {fa : Nat → Int} {ya : Option Addr} {ma ea : Nat} {ga : Nat → Int} {sb : Bool} {xb : Option Addr} {nb cb : Nat} {fb : Nat → Int} {yb : Option Addr} {mb eb : Nat} {gb : Nat → Int} (ha : Rw w xa na ca fa ya ma ea ga) (hb : Rw w xb nb cb fb yb mb eb gb) (hna : na ≤ 1000) (hma : ma ≤ 1000) (hnb : nb ≤ 1000) (hmb : mb ≤ 1000) (hpa : rfB sa fa na ga ma = true) (hpb : rfB sb fb nb gb mb = true) (hn0 : nb = 0) :
    Calls Tryz.prog 29 #[.agg #[.bool sa, .slice xa na ca, .slice ya ma ea], .agg #[.bool sb, .slice xb nb cb, .slice yb mb eb]] w fun en w' => en = .returned (.tuple #[.agg #[.bool false, .slice none 0 0, .slice none 0 0], .int .i64 4]) ∧ Below w.heap.size w w' := by
  have hnd : ((nb : Int) == 0) = true := by simp; omega
  clear hn0
  obtain ⟨h1, h2, h3, h4⟩ := qbox2 (w := w) (.bool sa) (.slice xa na ca) (.slice ya ma ea) (.bool sb) (.slice xb nb cb) (.slice yb mb eb) 24
  have h5 := ha.below h4
  have h6 := hb.below h4
  clear ha hb
  go_enter Tryz.func29, Tryz.ntmps29
  go_wp2_with fail
  generalize ((w.alloc (.cells #[.bool sa, .slice xa na ca, .slice ya ma ea] 24)).alloc (.cells #[.bool sb, .slice xb nb cb, .slice yb mb eb] 24)).alloc (.cells #[.bool false, .slice none 0 0, .slice none 0 0] 24) = w1 at *
  have HRA := hid h5; have HRB := hid h6; have HW := hid h4; have BA := hid h1; have BB := hid h2; have OB := hid h3
  clear h1 h2 h3 h4 h5 h6
  have c1 := rForm_c (s := sa) HRA.out (by omega) (by omega)
  rw [hpa] at c1
  refine c1.mono ?_
  rintro en w2 ⟨rfl, hb⟩
  have HB2 := hid hb
  clear c1 hb
  obtain ⟨zb, b0, b1, b2⟩ := BB.out.below HB2.out
  have c2 := rForm_c (s := sb) (HRB.out.below HB2.out) (by omega) (by omega)
  rw [hpb] at c2
  go_wp2_with fail
  refine c2.mono ?_
  rintro en w3 ⟨rfl, hb⟩
  have HB3 := hid (HB2.out.trans (hb.mono HB2.out.size))
  have HB := hid (HW.out.trans (HB3.out.mono HW.out.size))
  clear c2 hb zb b0 b1 b2
  obtain ⟨zb, b0, b1, b2⟩ := BB.out.below HB3.out
  obtain ⟨hz, z0, z1, z2, zf⟩ := OB.out.below HB3.out
  go_wp2
  exact bodyPost_ret (v := .tuple #[.agg #[.bool false, .slice none 0 0, .slice none 0 0], .int .i64 4]) (by simp [results, Tryz.results29, go_sem, z0, z1, z2]) rfl ⟨rfl, below_st HB.out (by omega)⟩
end Go.Proofs.YtlpmfmphglgocaaGreatDoor
namespace Go.Proofs.YtlpmfmphglgocaaGreatDoor
open Go.RowKit

set_option maxRecDepth 100000 in
set_option maxHeartbeats 4000000 in
theorem rMake_o {w : World} {sa : Bool} {xa : Option Addr} {na ca : Nat} {fa : Nat → Int} {sb : Bool} {xb : Option Addr} {nb cb : Nat} {fb : Nat → Int} {u v : Int} (ha : Wn w sa xa na ca fa u) (hb : Wn w sb xb nb cb fb v) {L : Nat} (hv : v ≠ 0) (hna : na ≤ L) (hnbL : nb ≤ L) (hL : L ≤ 1000) :
    Calls Tryz.prog 17 #[.agg #[.bool sa, .slice xa na ca], .agg #[.bool sb, .slice xb nb cb]] w fun e w' => RatTupO L w w' e ((u : Rat) / (v : Rat)) := by
  have HA0 := hid ha; have HB0 := hid hb
  have hvA : 0 < v.natAbs := by omega
  have hnb : 0 < nb := hb.mag.pos (by omega)
  clear ha hb
  have hn0 : ((nb : Int) == 0) = false := by simp; omega
  go_enter Tryz.func17, Tryz.ntmps17
  go_wp2_with fail
  refine (wForm_c sa xa na ca fa _ (by omega) (((HA0.out.alloc _).alloc _).alloc _).rd).mono ?_
  rintro e w1 ⟨rfl, hb⟩
  rw [HA0.out.wf]
  obtain ⟨ba, bb, ob, hw⟩ := mk_boxes hb
  have BA1 := hid ba; have BB1 := hid bb; have OB1 := hid ob; have HW1 := hid hw; have HA1 := hid (HA0.out.below hw); have HB1 := hid (HB0.out.below hw)
  clear ba bb ob hw hb HA0 HB0
  obtain ⟨zb, b0, b1⟩ := BB1.out
  go_wp2_with fail
  refine (wForm_c sb xb nb cb fb _ (by omega) HB1.out.rd).mono ?_
  rintro e w2 ⟨rfl, hb⟩
  rw [HB1.out.wf]
  clear zb b0 b1
  have BA2 := hid (BA1.out.below hb); have BB2 := hid (BB1.out.below hb); have OB2 := hid (OB1.out.below hb); have HA2 := hid (HA1.out.below hb); have HB2 := hid (HB1.out.below hb); have HW2 := hid (HW1.out.trans (hb.mono HW1.out.size))
  clear BA1 BB1 OB1 HA1 HB1 HW1 hb
  obtain ⟨za, a0, a1⟩ := BA2.out
  obtain ⟨zb, b0, b1⟩ := BB2.out
  obtain ⟨hz, z0, z1, z2, zf⟩ := OB2.out
  go_wp2_with fail
  refine (ratGcd_c HA2.out.mag HB2.out.mag (by omega) (by omega)).mono ?_
  rintro e w3 ⟨zg, kg, cg, fg, rfl, hb, hg⟩
  have WG3 := hid hg
  have hG0 : 0 < u.natAbs.gcd v.natAbs := Nat.gcd_pos_of_pos_right _ hvA
  have hkg : kg ≤ L := Nat.le_trans (hg.len_le HB2.out.mag (Nat.gcd_le_right _ hvA)) (by omega)
  clear hg za a0 a1 zb b0 b1 hz z0 z1 z2 zf
  have BA3 := hid (BA2.out.below hb); have BB3 := hid (BB2.out.below hb); have OB3 := hid (OB2.out.below hb); have HA3 := hid (HA2.out.below hb); have HB3 := hid (HB2.out.below hb); have HW3 := hid (HW2.out.trans (hb.mono HW2.out.size))
  clear BA2 BB2 OB2 HA2 HB2 HW2 hb
  obtain ⟨za, a0, a1⟩ := BA3.out
  obtain ⟨zb, b0, b1⟩ := BB3.out
  go_wp2_with fail
  refine (div_o HA3.out.mag WG3.out hG0 (by omega) (by omega)).mono ?_
  rintro e w4 ⟨zn, kn, cn, fn, zx, kx, cx, rfl, hb, hkn, hn, hon⟩
  have hz3 := OB3.out.z
  have WN4 := hid hn; have ON4 := hid (hon.base (show w.heap.size + 1 + 1 + 1 ≤ _ by omega))
  clear hon hz3
  clear hn za a0 a1 zb b0 b1
  have BA4 := hid (BA3.out.below hb); have BB4 := hid (BB3.out.below hb); have OB4 := hid (OB3.out.below hb); have HA4 := hid (HA3.out.below hb); have HB4 := hid (HB3.out.below hb); have WG4 := hid (WG3.out.below hb); have HW4 := hid (HW3.out.trans (hb.mono HW3.out.size))
  clear BA3 BB3 OB3 HA3 HB3 WG3 HW3 hb
  obtain ⟨za, a0, a1⟩ := BA4.out
  obtain ⟨zb, b0, b1⟩ := BB4.out
  go_wp2_with fail
  refine (div_o HB4.out.mag WG4.out hG0 (by omega) (by omega)).mono ?_
  rintro e w5 ⟨zd, kd, cd, fd, zy, ky, cy, rfl, hb, hkd, hn, hod⟩
  have hz4 := OB4.out.z
  have WD5 := hid hn; have AP5 := hid (own_ap ON4.out hod (Nat.le_refl _)); have OD5 := hid (hod.base (show w.heap.size + 1 + 1 + 1 ≤ _ by omega))
  clear hod hz4
  clear hn za a0 a1 zb b0 b1
  have BA5 := hid (BA4.out.below hb); have BB5 := hid (BB4.out.below hb); have OB5 := hid (OB4.out.below hb); have HA5 := hid (HA4.out.below hb); have HB5 := hid (HB4.out.below hb); have WN5 := hid (WN4.out.below hb); have ON5 := hid (ON4.out.below hb); have HW5 := hid (HW4.out.trans (hb.mono HW4.out.size))
  clear BA4 BB4 OB4 HA4 HB4 WN4 HW4 hb
  obtain ⟨za, a0, a1⟩ := BA5.out
  obtain ⟨zb, b0, b1⟩ := BB5.out
  obtain ⟨e1, e2⟩ := make_made HA5.out.sgn HB5.out.sgn hvA
  have E1 := hid e1; have E2 := hid e2
  clear e1 e2
  go_wp2_with fail
  refine (rsigned_c _ zn zd kn cn kd cd _ (by omega)).mono ?_
  rintro e w6 ⟨rs, rfl, HRS, hb⟩
  clear za a0 a1 zb b0 b1
  have OB6 := hid (OB5.out.below hb); have WN6 := hid (WN5.out.below hb); have WD6 := hid (WD5.out.below hb); have ON6 := hid (ON5.out.below hb); have OD6 := hid (OD5.out.below hb); have HW6 := hid (HW5.out.trans (hb.mono HW5.out.size))
  clear OB5 WN5 WD5 HW5 hb
  obtain ⟨hz, z0, z1, z2, zf⟩ := OB6.out
  go_wp2
  refine bodyPost_ret (v := .tuple #[.agg #[.bool rs, .slice zn kn cn, .slice zd kd cd], .int .i64 0]) (by simp [results, Tryz.results17, go_sem, z0, z1, z2]) rfl ⟨rs, zn, kn, cn, fn, zd, kd, cd, fd, rfl, below_st HW6.out (by omega), ⟨?_, ?_, by omega, by omega⟩, (own_st3 ON6.out (by omega)).base (by omega), (own_st3 OD6.out (by omega)).base (by omega), AP5.out⟩
  · rw [E1.out]; exact OB6.out.wn (WN6.out.resign HRS.out)
  · rw [E2.out]; exact OB6.out.wn WD6.out
end Go.Proofs.YtlpmfmphglgocaaGreatDoor
namespace Go.Proofs.YtlpmfmphglgocaaGreatDoor
open Go.RowKit

theorem cut42_c (w : World) : Calls Tryz.prog 63 #[.string ⟨#[52, 47, 50]⟩, .string ⟨#[47]⟩] w fun e w' => e = .returned (.tuple #[.string ⟨#[52]⟩, .string ⟨#[50]⟩, .bool true]) ∧ Below w.heap.size w w' := by
  have C1 : Hid (∀ W, Calls Tryz.prog 123 #[.string ⟨#[52, 47, 50]⟩, .string ⟨#[47]⟩] W fun e w' => e = .returned (.int .i64 1) ∧ w' = W) := fun W => Tryz.stringslite_Index_one ⟨#[52, 47, 50]⟩ 47 W
  have c2 : ∀ W, Calls Tryz.prog 98 #[.string ⟨#[52, 47, 50]⟩, .string ⟨#[47]⟩] W fun e w' => e = .returned (.tuple #[.string ⟨#[52]⟩, .string ⟨#[50]⟩, .bool true]) ∧ Below W.heap.size W w' := fun W => by
    go_enter Tryz.func98, Tryz.ntmps98
    go_wp2_with fail
    refine (C1.out _).mono ?_
    rintro e w1 ⟨rfl, rfl⟩
    go_wp2
    go_quiet (fail)
    go_wp2
    have e1 : (ByteArray.mk #[52, 47, 50]).extract 0 1 = ⟨#[52]⟩ := by decide +kernel
    have e2 : (ByteArray.mk #[52, 47, 50]).extract 2 3 = ⟨#[50]⟩ := by decide +kernel
    exact bodyPost_ret (v := .tuple #[.string ⟨#[52]⟩, .string ⟨#[50]⟩, .bool true]) (by simp [results, Tryz.results98, go_sem, e1, e2]) rfl ⟨rfl, below_drewN (Below.refl _ _) _⟩
  have C2 := hid c2
  clear c2 C1
  go_enter Tryz.func63, Tryz.ntmps63
  go_wp2_with fail
  refine (C2.out _).mono ?_
  rintro e w1 ⟨rfl, hb⟩
  go_wp2
  exact bodyPost_ret (v := .tuple #[.string ⟨#[52]⟩, .string ⟨#[50]⟩, .bool true]) (by simp [results, Tryz.results63, go_sem]) rfl ⟨rfl, hb⟩
theorem sb_4 : Sb ⟨#[52]⟩ 1 (fun _ => 52) := ⟨rfl, fun k h => by
  have hk : k < 1 := h
  obtain rfl : k = 0 := by omega
  rfl⟩
theorem sb_2 : Sb ⟨#[50]⟩ 1 (fun _ => 50) := ⟨rfl, fun k h => by
  have hk : k < 1 := h
  obtain rfl : k = 0 := by omega
  rfl⟩
theorem read_4 {r : Bool} {k : Nat} {f : Nat → Int} {er : Int} (h : WRead 1 (fun _ => 52) r k f er) : er = 0 ∧ wv r f k = 4 := by
  have hn : IsNum (fun _ => 52) 1 := ⟨(digB_iff _ _).1 (by decide), by decide, .inl rfl⟩
  have hd : dn (fun _ => 52) 1 = 4 := by decide
  rcases h with ⟨h1, _⟩ | ⟨_, _, h1, _⟩ | ⟨_, _, _, h1, h2⟩ | ⟨_, _, h1, _⟩
  · omega
  · exact absurd h1 (by decide)
  · rw [hd] at h2; exact ⟨h1, h2⟩
  · exact absurd ⟨fun h => absurd h.2 (by decide), hn⟩ h1
theorem read_2 {k : Nat} {f : Nat → Int} {er : Int} (h : ReadAns 1 (fun _ => 50) k f er) : er = 0 ∧ vf f k = 2 := by
  have hn : IsNum (fun _ => 50) 1 := ⟨(digB_iff _ _).1 (by decide), by decide, .inl rfl⟩
  have hd : dn (fun _ => 50) 1 = 2 := by decide
  rcases h with ⟨h1, _⟩ | ⟨_, h1, _⟩ | ⟨_, _, h1, h2⟩
  · omega
  · exact absurd hn h1
  · rw [hd] at h2; exact ⟨h1, h2⟩
theorem readDen2_c (w : World) : Calls Tryz.prog 66 #[.string ⟨#[50]⟩] w fun e w' => ∃ x k c f, e = .returned (.tuple #[.slice x k c, .int .i64 0]) ∧ Below w.heap.size w w' ∧ Wn w' false x k c f 2 := by
  go_enter Tryz.func66, Tryz.ntmps66
  go_wp2_with fail
  refine (Read_c ⟨#[50]⟩ 1 _ _ sb_2).mono ?_
  rintro e w1 ⟨x, k, c, f, er, rfl, hres, hans⟩
  have hr := hres.ans (by omega)
  obtain ⟨rfl, hv⟩ := read_2 hans
  have hb := hr.bel
  have hw : Wn w1 false x k c f 2 := ⟨hr.rd, hr.lm, (wfB_iff _ _ _).2 ⟨hr.fm, fun h => by cases h⟩, hr.ncap, hr.nil', hv⟩
  have C2 := hid (isOne_c hw); have HB := hid hb; have HW := hid hw
  clear hres hans hr hv hb hw
  go_wp2_with fail
  refine C2.out.mono ?_
  rintro e w2 ⟨rfl, rfl⟩
  have hd : decide ((2 : Int) = 1) = false := by decide
  rw [hd]
  go_wp2
  go_ret2
  exact ⟨x, k, c, f, rfl, HB.out, HW.out⟩
theorem rf_42 {s f n g m} (h1 : vf f n = 4) (h2 : vf g m = 2) : rfB s f n g m = false := by
  simp only [rfB, h1, h2]
  have : decide ((4 : Int).toNat.gcd (2 : Int).toNat = 1) = false := by decide
  rw [this]; simp
set_option maxRecDepth 100000 in
set_option maxHeartbeats 4000000 in
theorem read42_c (w : World) : Calls Tryz.prog 23 #[.string ⟨#[52, 47, 50]⟩] w fun e w' => ∃ s x n c y m d, e = .returned (.tuple #[.agg #[.bool s, .slice x n c, .slice y m d], .int .i64 11]) ∧ Below w.heap.size w w' := by
  have h3 := ob_new w 24
  have h4 := below_alloc (Below.refl w.heap.size w) (.cells #[.bool false, .slice none 0 0, .slice none 0 0] 24)
  have hsz : ((ByteArray.mk #[52, 47, 50]).size : Int) = 3 := by decide
  go_enter Tryz.func23, Tryz.ntmps23
  go_wp2_with fail
  generalize w.alloc (.cells #[.bool false, .slice none 0 0, .slice none 0 0] 24) = w1 at *
  have OB1 := hid h3; have HW1 := hid h4
  clear h3 h4
  refine (cut42_c _).mono ?_
  rintro e w2 ⟨rfl, hb⟩
  have OB2 := hid (OB1.out.below hb); have HW2 := hid (HW1.out.trans (hb.mono HW1.out.size))
  clear hb OB1 HW1
  go_wp2_with fail
  refine (wRead_c ⟨#[52]⟩ 1 _ _ sb_4 (by omega)).mono ?_
  rintro e w3 ⟨s3, x3, k3, c3, f3, er, rfl, hr, hans⟩
  obtain ⟨rfl, hv⟩ := read_4 hans
  have hb := hr.res.bel
  have WA3 := hid (hr.wn hv); have OB3 := hid (OB2.out.below hb); have HW3 := hid (HW2.out.trans (hb.mono HW2.out.size))
  clear hb hr hans hv OB2 HW2
  go_wp2_with fail
  refine (ratOne_c _).mono ?_
  rintro e w4 ⟨x4, f4, rfl, hb, _⟩
  have BA4 := hid (bx_new hb); have WA4 := hid (WA3.out.next hb); have OB4 := hid (OB3.out.next hb); have HW4 := hid ((below_alloc HW3.out _).trans (hb.mono (below_alloc HW3.out _).size))
  clear hb OB3 HW3 WA3
  go_wp2_with fail
  refine (readDen2_c _).mono ?_
  rintro e w5 ⟨x5, k5, c5, f5, rfl, hb, hd⟩
  have WD5 := hid hd; have BA5 := hid (BA4.out.below hb); have WA5 := hid (WA4.out.below hb); have OB5 := hid (OB4.out.below hb); have HW5 := hid (HW4.out.trans (hb.mono HW4.out.size))
  clear hb hd BA4 WA4 OB4 HW4
  obtain ⟨za, a0, a1⟩ := BA5.out
  go_wp2_with fail
  refine (rsigned_c s3 x3 x5 k3 c3 k5 c5 _ (by have := WA5.out.cap; omega)).mono ?_
  rintro e w6 ⟨r6, rfl, _, hb⟩
  have WD6 := hid (WD5.out.below hb); have WA6 := hid (WA5.out.below hb); have OB6 := hid (OB5.out.below hb); have HW6 := hid (HW5.out.trans (hb.mono HW5.out.size))
  clear hb za a0 a1 BA5 WA5 WD5 OB5 HW5
  have k3le := WA6.out.len1 (by decide)
  have k5le := WD6.out.len1 (by decide)
  have hrf : rfB r6 f3 k3 f5 k5 = false := by
    refine rf_42 ?_ WD6.out.nv
    have := WA6.out.mag.nv; exact this
  have HRF := hid hrf
  clear hrf
  go_wp2_with fail
  refine (rForm_c (s := r6) (⟨(WA6.out.alloc _).rd, WA6.out.lm, WA6.out.cap, WA6.out.nil, (WD6.out.alloc _).rd, WD6.out.lm, WD6.out.cap, WD6.out.nil⟩ : Rw _ x3 k3 c3 f3 x5 k5 c5 f5) (by omega) (by omega)).mono ?_
  rintro e w7 ⟨rfl, hb⟩
  rw [HRF.out]
  have OB7 := hid (OB6.out.next hb); have HW7 := hid ((below_alloc HW6.out _).trans (hb.mono (below_alloc HW6.out _).size))
  clear hb OB6 HW6 WA6 WD6
  obtain ⟨hz, z0, z1, z2, zf⟩ := OB7.out
  go_wp2
  exact bodyPost_ret (v := .tuple #[.agg #[.bool false, .slice none 0 0, .slice none 0 0], .int .i64 11]) (by simp [results, Tryz.results23, go_sem, z0, z1, z2]) rfl ⟨false, none, 0, 0, none, 0, 0, rfl, below_st HW7.out (Nat.le_refl _)⟩
end Go.Proofs.YtlpmfmphglgocaaGreatDoor
namespace Go.Proofs.YtlpmfmphglgocaaGreatDoor
open Go.RowKit

theorem dec_3 : Lib.decDigits 3 = [51] := by decide +kernel
theorem dec_2 : Lib.decDigits 2 = [50] := by decide +kernel
theorem wtxt_m3 {s : Bool} {f : Nat → Int} {n : Nat} (hf : Lm f n) (hw : wfB s f n = true) (hv : wv s f n = -3) : wtxt s f n = ⟨#[45, 51]⟩ ∧ wter s f n = 0 := by
  have h0 := vf_nonneg hf
  have hfm : fmB f n = true := (fmB_iff f n).2 (fm_of_wfB hw)
  cases s
  · rw [wv_false] at hv; omega
  · rw [wv_true] at hv
    have e : (vf f n).toNat = 3 := by omega
    refine ⟨?_, by simp [wter, hw]⟩
    unfold wtxt txt
    rw [if_pos hw, if_pos rfl, if_pos hfm, e, dec_3]
    rfl
theorem txt_2 {f : Nat → Int} {n : Nat} (hf : Fm f n) (hv : vf f n = 2) : txt f n = ⟨#[50]⟩ ∧ ter f n = 0 := by
  have hfm : fmB f n = true := (fmB_iff f n).2 hf
  have e : (vf f n).toNat = 2 := by omega
  refine ⟨?_, by simp [ter, hfm]⟩
  unfold txt
  rw [if_pos hfm, e, dec_2]
set_option maxRecDepth 100000 in
set_option maxHeartbeats 4000000 in
theorem text32_c {L w s x n c f y m d g q} (h : Rn L w s x n c f y m d g q) (hL : L ≤ 1000) (t1 : Tg w x) (t2 : Tg w y) (htab : Tab w) (h1 : q.num = -3) (h2 : q.den = 2) :
    Calls Tryz.prog 22 #[.agg #[.bool s, .slice x n c, .slice y m d]] w fun e w' => e = .returned (.tuple #[.string ⟨#[45, 51, 47, 50]⟩, .int .i64 0]) ∧ Below w.heap.size w w' := by
  have HR := hid h; have T1 := hid t1; have T2 := hid t2; have HTab := hid htab
  have b1 := h.ln; have b2 := h.ld
  have e1 := wtxt_m3 h.num.lm h.num.wf (h.num.val.trans h1)
  have e2 := txt_2 h.den.fm (h.den.nv.trans (by rw [h2]; rfl))
  have E1 := hid e1; have E2 := hid e2; have H2 := hid h2
  clear h t1 t2 htab e1 e2 h1 h2
  go_enter Tryz.func22, Tryz.ntmps22
  go_wp2_with fail
  refine (rForm_n (HR.out.alloc _) (by omega)).mono ?_
  rintro e w1 ⟨rfl, hb⟩
  have B1 := hid (bx3_new hb); have HW1 : Hid (Below w.heap.size w w1) := (below_alloc (Below.refl w.heap.size w) _).trans (hb.mono (by simp))
  clear hb
  obtain ⟨z, x0, x1, x2⟩ := B1.out
  go_wp2_with fail
  refine (numer_c s x y n c m d _).mono ?_
  rintro e w2 ⟨rfl, hb⟩
  have B2 := hid (B1.out.below hb); have HW2 := hid (HW1.out.trans (hb.mono HW1.out.size))
  clear hb B1 HW1 z x0 x1 x2
  obtain ⟨z, x0, x1, x2⟩ := B2.out
  have R2 := hid (HR.out.below HW2.out)
  have ct := wText_c s x n c f w2 (by omega) R2.out.num.rd (T1.out.kept HW2.out) R2.out.num.lm (HTab.out.below HW2.out HTab.out.lt) R2.out.num.cap.1 R2.out.num.cap.2
  rw [E1.out.1, E1.out.2] at ct
  have CT := hid ct
  clear ct
  go_wp2_with fail
  refine CT.out.mono ?_
  rintro e w3 ⟨rfl, hb⟩
  have B3 := hid (B2.out.below hb); have HW3 := hid (HW2.out.trans (hb.mono HW2.out.size)); have R3 := hid (R2.out.below hb)
  clear hb B2 HW2 R2 CT z x0 x1 x2
  obtain ⟨z, x0, x1, x2⟩ := B3.out
  have c4 := isOne_c R3.out.den
  rw [show decide ((q.den : Int) = 1) = false by rw [H2.out]; decide] at c4
  have C4 := hid c4
  clear c4
  have cd := TextAll_c y m d g w3 (by omega) R3.out.den.rd (T2.out.kept HW3.out) R3.out.den.lm (HTab.out.below HW3.out HTab.out.lt) R3.out.den.cap.1 R3.out.den.cap.2
  rw [E2.out.1, E2.out.2] at cd
  have CD := hid cd
  clear cd
  go_wp2_with fail
  refine C4.out.mono ?_
  rintro e w4 ⟨rfl, rfl⟩
  go_wp2_with fail
  refine CD.out.mono ?_
  rintro e w5 ⟨rfl, hb⟩
  have HW5 := hid (HW3.out.trans (hb.mono HW3.out.size))
  clear hb
  go_wp2
  go_ret2
  exact ⟨by first | rfl | decide +kernel, HW5.out⟩
end Go.Proofs.YtlpmfmphglgocaaGreatDoor
namespace Go.Proofs.YtlpmfmphglgocaaGreatDoor
open Go.RowKit

theorem q_a : ((6 : Int) : Rat) / ((-4 : Int) : Rat) = ((-3 : Int) : Rat) / ((2 : Int) : Rat) := by decide +kernel
theorem q_b : ((1 : Int) : Rat) / ((6 : Int) : Rat) + ((1 : Int) : Rat) / ((3 : Int) : Rat) = ((1 : Int) : Rat) / ((2 : Int) : Rat) := by decide +kernel
theorem q_c : (((-1 : Int) : Rat) / ((2 : Int) : Rat)).floor = -1 := by decide +kernel
theorem q_n : (((-3 : Int) : Rat) / ((2 : Int) : Rat)).num = -3 := by decide +kernel
theorem q_d : (((-3 : Int) : Rat) / ((2 : Int) : Rat)).den = 2 := by decide +kernel
theorem rf_none : rfB false (fun _ => 0) 0 (fun _ => 0) 0 = false := by decide
set_option maxRecDepth 100000 in
set_option maxHeartbeats 8000000 in
theorem rAwake_c (w : World) (htab : Tab w) : Calls Tryz.prog 5 #[] w fun e w' => e = .returned (.bool true) ∧ Below w.heap.size w w' := by
  have HTab := hid htab
  clear htab
  go_enter Tryz.func5, Tryz.ntmps5
  go_wp2_with fail
  refine (docOf_c 6 _ (by decide) (by decide)).mono ?_
  rintro e w1 ⟨s1, x1, k1, c1, f1, rfl, hr, hv⟩
  have HW1 := hid hr.res.bel; have WA1 := hid (hr.wn hv)
  have hk1 := (hr.wn hv).len1 (by decide)
  clear hr hv
  go_wp2_with fail
  refine (docOf_c (-4) _ (by decide) (by decide)).mono ?_
  rintro e w2 ⟨s2, x2, k2, c2, f2, rfl, hr, hv⟩
  have hb := hr.res.bel; have WB2 := hid (hr.wn hv)
  have hk2 := (hr.wn hv).len1 (by decide)
  clear hr hv
  have WA2 := hid (WA1.out.below hb); have HW2 := hid (HW1.out.trans (hb.mono HW1.out.size))
  clear WA1 HW1 hb
  go_wp2_with fail
  refine (rMake_n (L := 1) WA2.out WB2.out (by decide) hk1 hk2 (by decide)).mono ?_
  rintro e w3 ⟨sA, xA, nA, cA, fA, yA, mA, dA, gA, rfl, hb, hr⟩
  rw [q_a] at hr
  have RA3 := hid hr
  clear hr WA2 WB2
  have HW3 := hid (HW2.out.trans (hb.mono HW2.out.size))
  clear HW2 hb
  go_wp2_with fail
  refine (num_c _ (1) 6 (by decide) (by decide) (by decide) (by decide)).mono ?_
  rintro e w4 ⟨sp, xp, np, cp, fp, yp, mp, dp, gp, rfl, hb, hr, ht1, ht2⟩
  have Rp4 := hid hr
  have BA4 := hid (bx3_new hb)
  clear hr ht1 ht2
  have RA4 := hid (RA3.out.next hb); have HW4 := hid ((below_alloc HW3.out _).trans (hb.mono (below_alloc HW3.out _).size))
  clear RA3 HW3 hb
  go_wp2_with fail
  refine (num_c _ (1) 3 (by decide) (by decide) (by decide) (by decide)).mono ?_
  rintro e w5 ⟨sq, xq, nq, cq, fq, yq, mq, dq, gq, rfl, hb, hr, ht1, ht2⟩
  have Rq5 := hid hr
  clear hr ht1 ht2
  have RA5 := hid (RA4.out.below hb); have BA5 := hid (BA4.out.below hb); have Rp5 := hid (Rp4.out.below hb); have HW5 := hid (HW4.out.trans (hb.mono HW4.out.size))
  clear RA4 BA4 Rp4 HW4 hb
  go_wp2_with fail
  refine (rAdd_n Rp5.out Rq5.out (by decide)).mono ?_
  rintro e w6 ⟨sB, xB, nB, cB, fB, yB, mB, dB, gB, rfl, hb, hr⟩
  rw [q_b] at hr
  have RB6 := hid hr
  clear hr Rp5 Rq5
  have RA6 := hid (RA5.out.below hb); have BA6 := hid (BA5.out.below hb); have HW6 := hid (HW5.out.trans (hb.mono HW5.out.size))
  clear RA5 BA5 HW5 hb
  go_wp2_with fail
  refine (num_c _ (-1) 2 (by decide) (by decide) (by decide) (by decide)).mono ?_
  rintro e w7 ⟨sr, xr, nr, cr, fr, yr, mr, dr, gr, rfl, hb, hr, ht1, ht2⟩
  have Rr7 := hid hr
  have BB7 := hid (bx3_new hb)
  clear hr ht1 ht2
  have RA7 := hid (RA6.out.next hb); have BA7 := hid (BA6.out.next hb); have RB7 := hid (RB6.out.next hb); have HW7 := hid ((below_alloc HW6.out _).trans (hb.mono (below_alloc HW6.out _).size))
  clear RA6 BA6 RB6 HW6 hb
  go_wp2_with fail
  refine (rFloor_n Rr7.out (by decide)).mono ?_
  rintro e w8 ⟨sC, xC, nC, cC, fC, rfl, hb, hkC, hr⟩
  rw [q_c] at hr
  have WC8 := hid hr
  clear hr Rr7
  have RA8 := hid (RA7.out.below hb); have BA8 := hid (BA7.out.below hb); have RB8 := hid (RB7.out.below hb); have BB8 := hid (BB7.out.below hb); have HW8 := hid (HW7.out.trans (hb.mono HW7.out.size))
  clear RA7 BA7 RB7 BB7 HW7 hb
  go_wp2_with fail
  refine (num_c _ (-3) 2 (by decide) (by decide) (by decide) (by decide)).mono ?_
  rintro e w9 ⟨st, xt, nt, ct, ft, yt, mt, dt, gt, rfl, hb, hr, ht1, ht2⟩
  have Rt9 := hid hr
  have BC9 := hid (bx_new hb); have G1 := hid ht1; have G2 := hid ht2
  clear hr ht1 ht2
  have RA9 := hid (RA8.out.next hb); have BA9 := hid (BA8.out.next hb); have RB9 := hid (RB8.out.next hb); have BB9 := hid (BB8.out.next hb); have WC9 := hid (WC8.out.next hb); have HW9 := hid ((below_alloc HW8.out _).trans (hb.mono (below_alloc HW8.out _).size))
  clear RA8 BA8 RB8 BB8 WC8 HW8 hb
  go_wp2_with fail
  refine (text32_c Rt9.out (by decide) G1.out G2.out (HTab.out.below HW9.out HTab.out.lt) q_n q_d).mono ?_
  rintro e w10 ⟨rfl, hb⟩
  clear Rt9 G1 G2
  have RA10 := hid (RA9.out.below hb); have BA10 := hid (BA9.out.below hb); have RB10 := hid (RB9.out.below hb); have BB10 := hid (BB9.out.below hb); have WC10 := hid (WC9.out.below hb); have BC10 := hid (BC9.out.below hb); have HW10 := hid (HW9.out.trans (hb.mono HW9.out.size))
  clear RA9 BA9 RB9 BB9 WC9 BC9 HW9 hb
  go_wp2_with fail
  refine (read42_c _).mono ?_
  rintro e w11 ⟨sD, xD, nD, cD, yD, mD, dD, rfl, hb⟩
  have RA11 := hid (RA10.out.below hb); have BA11 := hid (BA10.out.below hb); have RB11 := hid (RB10.out.below hb); have BB11 := hid (BB10.out.below hb); have WC11 := hid (WC10.out.below hb); have BC11 := hid (BC10.out.below hb); have HW11 := hid (HW10.out.trans (hb.mono HW10.out.size))
  clear RA10 BA10 RB10 BB10 WC10 BC10 HW10 hb
  obtain ⟨za, a0, a1, a2⟩ := BA11.out
  obtain ⟨zb, b0, b1, b2⟩ := BB11.out
  obtain ⟨zc, c0, c1'⟩ := BC11.out
  have N1 : Hid (∀ W : World, Calls Tryz.prog 20 #[.int .i64 (-3), .int .i64 2] W fun e w' => ∃ s x n c f y m d g, e = .returned (.agg #[.bool s, .slice x n c, .slice y m d]) ∧ Below W.heap.size W w' ∧ Hid (Rn 2 w' s x n c f y m d g (((-3 : Int) : Rat) / ((2 : Int) : Rat)))) := fun W => (num_c W (-3) 2 (by decide) (by decide) (by decide) (by decide)).mono (fun e w' ⟨s, x, n, c, f, y, m, d, g, h1, h2, h3, _, _⟩ => ⟨s, x, n, c, f, y, m, d, g, h1, h2, h3⟩)
  have N2 : Hid (∀ W : World, Calls Tryz.prog 20 #[.int .i64 1, .int .i64 2] W fun e w' => ∃ s x n c f y m d g, e = .returned (.agg #[.bool s, .slice x n c, .slice y m d]) ∧ Below W.heap.size W w' ∧ Hid (Rn 2 w' s x n c f y m d g (((1 : Int) : Rat) / ((2 : Int) : Rat)))) := fun W => (num_c W 1 2 (by decide) (by decide) (by decide) (by decide)).mono (fun e w' ⟨s, x, n, c, f, y, m, d, g, h1, h2, h3, _, _⟩ => ⟨s, x, n, c, f, y, m, d, g, h1, h2, h3⟩)
  have S1 : Hid (∀ (W : World) (s : Bool) (x : Option Addr) (n c : Nat) (f : Nat → Int) (y : Option Addr) (m d : Nat) (g : Nat → Int), Below w11.heap.size w11 W → Rn 2 W s x n c f y m d g (((-3 : Int) : Rat) / ((2 : Int) : Rat)) → Calls Tryz.prog 9 #[.agg #[.bool sA, .slice xA nA cA, .slice yA mA dA], .agg #[.bool s, .slice x n c, .slice y m d]] W fun e w' => e = .returned (.bool true) ∧ Below W.heap.size W w') := fun W s x n c f y m d g hW hr => (rSame_n (RA11.out.below hW) hr (by decide) (by decide)).mono (fun e w' ⟨h1, h2⟩ => ⟨by rw [h1]; simp, h2⟩)
  have S2 : Hid (∀ (W : World) (s : Bool) (x : Option Addr) (n c : Nat) (f : Nat → Int) (y : Option Addr) (m d : Nat) (g : Nat → Int), Below w11.heap.size w11 W → Rn 2 W s x n c f y m d g (((1 : Int) : Rat) / ((2 : Int) : Rat)) → Calls Tryz.prog 9 #[.agg #[.bool sB, .slice xB nB cB, .slice yB mB dB], .agg #[.bool s, .slice x n c, .slice y m d]] W fun e w' => e = .returned (.bool true) ∧ Below W.heap.size W w') := fun W s x n c f y m d g hW hr => (rSame_n (RB11.out.below hW) hr (by decide) (by decide)).mono (fun e w' ⟨h1, h2⟩ => ⟨by rw [h1]; simp, h2⟩)
  have D1 : Hid (∀ W : World, Calls Tryz.prog 18 #[.int .i64 (-1)] W fun e w' => ∃ s x n c f, e = .returned (.agg #[.bool s, .slice x n c]) ∧ Below W.heap.size W w' ∧ Hid (n ≤ 1 ∧ Wn w' s x n c f (-1))) := fun W => (docOf_c (-1) W (by decide) (by decide)).mono (fun e w' ⟨s, x, n, c, f, h1, h2, h3⟩ => ⟨s, x, n, c, f, h1, h2.res.bel, (h2.wn h3).len1 (by decide), h2.wn h3⟩)
  have S3 : Hid (∀ (W : World) (s : Bool) (x : Option Addr) (n c : Nat) (f : Nat → Int), Below w11.heap.size w11 W → n ≤ 1 → Wn W s x n c f (-1) → Calls Tryz.prog 24 #[.agg #[.bool sC, .slice xC nC cC], .agg #[.bool s, .slice x n c]] W fun e w' => e = .returned (.bool true) ∧ Below W.heap.size W w') := fun W s x n c f hW hn hr => same_n (WC11.out.below hW) hr (by omega) (by omega)
  have F1 : Hid (∀ W : World, Calls Tryz.prog 25 #[.agg #[.bool false, .slice none 0 0, .slice none 0 0]] W fun e w' => e = .returned (.bool false) ∧ Below W.heap.size W w') := fun W => by
    have h := rForm_c (s := false) (⟨Rd.zero, (fun j hj => by omega), by omega, (fun _ => by omega), Rd.zero, (fun j hj => by omega), by omega, (fun _ => by omega)⟩ : Rw W none 0 0 (fun _ => 0) none 0 0 (fun _ => 0)) (by omega) (by omega)
    rw [rf_none] at h
    exact h
  go_wp2
  go_region_held3 (fun w' => w'.cell? ⟨w3.heap.size, 0, none⟩ = some (.bool sA) ∧ w'.cell? ⟨w3.heap.size, 1, none⟩ = some (.slice xA nA cA) ∧ w'.cell? ⟨w3.heap.size, 2, none⟩ = some (.slice yA mA dA) ∧ w'.cell? ⟨w6.heap.size, 0, none⟩ = some (.bool sB) ∧ w'.cell? ⟨w6.heap.size, 1, none⟩ = some (.slice xB nB cB) ∧ w'.cell? ⟨w6.heap.size, 2, none⟩ = some (.slice yB mB dB) ∧ w'.cell? ⟨w8.heap.size, 0, none⟩ = some (.bool sC) ∧ w'.cell? ⟨w8.heap.size, 1, none⟩ = some (.slice xC nC cC))
    (refine ⟨?_, ?_, ?_, ?_, ?_, ?_, ?_, ?_⟩ <;> repeat (with_reducible first | assumption | refine kCd ?_ | refine kCa ?_ | refine kCb (by assumption) ?_))
    (first
      | (go_at_call 20; with_reducible refine (N1.out _).mono ?_; rintro e v1 ⟨i1, i2, i3, i4, i5, i6, i7, i8, i9, rfl, hv1, HI⟩)
      | (go_at_call 9; with_reducible refine (S1.out _ i1 i2 i3 i4 i5 i6 i7 i8 i9 (by repeat (with_reducible first | assumption | exact Below.refl _ _ | refine Below.drew ?_ | refine kBa ?_ | refine kBb (by assumption) ?_)) HI.out).mono ?_; rintro e v2 ⟨rfl, hv2⟩)
      | (go_at_call 20; with_reducible refine (N2.out _).mono ?_; rintro e v3 ⟨j1, j2, j3, j4, j5, j6, j7, j8, j9, rfl, hv3, HJ⟩)
      | (go_at_call 9; with_reducible refine (S2.out _ j1 j2 j3 j4 j5 j6 j7 j8 j9 (by repeat (with_reducible first | assumption | exact Below.refl _ _ | refine Below.drew ?_ | refine kBa ?_ | refine kBb (by assumption) ?_)) HJ.out).mono ?_; rintro e v4 ⟨rfl, hv4⟩)
      | (go_at_call 18; with_reducible refine (D1.out _).mono ?_; rintro e v5 ⟨k1', k2', k3', k4', k5', rfl, hv5, HK⟩)
      | (go_at_call 24; with_reducible refine (S3.out _ k1' k2' k3' k4' k5' (by repeat (with_reducible first | assumption | exact Below.refl _ _ | refine Below.drew ?_ | refine kBa ?_ | refine kBb (by assumption) ?_)) HK.out.1 HK.out.2).mono ?_; rintro e v6 ⟨rfl, hv6⟩)
      | (go_at_call 25; with_reducible refine (F1.out _).mono ?_; rintro e v7 ⟨rfl, hv7⟩))
  all_goals
    go_wp2
    go_ret
    exact ⟨rfl, HW11.out.trans (Below.mono (by repeat (with_reducible first | assumption | exact Below.refl _ _ | refine Below.drew ?_ | refine kBa ?_ | refine kBb (by assumption) ?_)) HW11.out.size)⟩
end Go.Proofs.YtlpmfmphglgocaaGreatDoor
namespace Go.Proofs.YtlpmfmphglgocaaGreatDoor
open Go.RowKit

theorem OQ.below {p kind qa qb w w' s x n c f y m d g er} (h : OQ p kind qa qb w s x n c f y m d g er) (hb : Below w.heap.size w w') : OQ p kind qa qb w' s x n c f y m d g er := by
  rcases h with h | h | ⟨h1, h2, h3, h4⟩
  · exact .inl h
  · exact .inr (.inl h)
  · exact .inr (.inr ⟨h1, h2, h3, h4.below hb⟩)
theorem OQ.alloc {p kind qa qb w s x n c f y m d g er} (h : OQ p kind qa qb w s x n c f y m d g er) (o : Obj) : OQ p kind qa qb (w.alloc o) s x n c f y m d g er := h.below (below_alloc (Below.refl _ _) o)
end Go.Proofs.YtlpmfmphglgocaaGreatDoor
namespace Go.Proofs.YtlpmfmphglgocaaGreatDoor
open Go.RowKit

set_option maxRecDepth 100000 in
set_option maxHeartbeats 4000000 in
theorem rMakeErr_c {w : World} {sa : Bool} {xa : Option Addr} {na ca : Nat} {fa : Nat → Int} {sb : Bool} {xb : Option Addr} {nb cb : Nat} {fb : Nat → Int} (ha : Rd .u64 w xa na fa) (hb : Rd .u64 w xb nb fb) (hna : na ≤ 1000) (hnb : nb ≤ 1000) (hp : (wfB sa fa na && wfB sb fb nb) = false) :
    Calls Tryz.prog 17 #[.agg #[.bool sa, .slice xa na ca], .agg #[.bool sb, .slice xb nb cb]] w fun en w' => en = .returned (.tuple #[.agg #[.bool false, .slice none 0 0, .slice none 0 0], .int .i64 3]) ∧ Below w.heap.size w w' := by
  have HA0 := hid ha; have HB0 := hid hb
  clear ha hb
  go_enter Tryz.func17, Tryz.ntmps17
  go_wp2_with fail
  refine (wForm_c sa xa na ca fa _ (by omega) (((HA0.out.alloc _).alloc _).alloc _)).mono ?_
  rintro e w1 ⟨rfl, hb⟩
  obtain ⟨ba, bb, ob, hw⟩ := mk_boxes hb
  have BB1 := hid bb; have OB1 := hid ob; have HW1 := hid hw
  clear ba bb ob hw hb
  cases h1 : wfB sa fa na
  · clear hp
    have HB := hid HW1.out
    obtain ⟨hz, z0, z1, z2, zf⟩ := OB1.out
    go_wp2
    exact bodyPost_ret (v := .tuple #[.agg #[.bool false, .slice none 0 0, .slice none 0 0], .int .i64 3]) (by simp [results, Tryz.results17, go_sem, z0, z1, z2]) rfl ⟨rfl, below_st HB.out (by omega)⟩
  have h2 : wfB sb fb nb = false := by rw [h1] at hp; simpa using hp
  clear hp h1
  obtain ⟨zb, b0, b1⟩ := BB1.out
  go_wp2_with fail
  refine (wForm_c sb xb nb cb fb _ (by omega) (HB0.out.below HW1.out (Nat.le_refl _))).mono ?_
  rintro e w2 ⟨rfl, hb⟩
  rw [h2]
  have HB := hid (HW1.out.trans (hb.mono HW1.out.size))
  obtain ⟨hz, z0, z1, z2, zf⟩ := OB1.out.below hb
  clear hb zb b0 b1 h2
  go_wp2
  exact bodyPost_ret (v := .tuple #[.agg #[.bool false, .slice none 0 0, .slice none 0 0], .int .i64 3]) (by simp [results, Tryz.results17, go_sem, z0, z1, z2]) rfl ⟨rfl, below_st HB.out (by omega)⟩

set_option maxRecDepth 100000 in
set_option maxHeartbeats 4000000 in
theorem rMakeZero_c {w : World} {sa : Bool} {xa : Option Addr} {na ca : Nat} {fa : Nat → Int} {sb : Bool} {xb : Option Addr} {nb cb : Nat} {fb : Nat → Int} (ha : Rd .u64 w xa na fa) (hb : Rd .u64 w xb nb fb) (hna : na ≤ 1000) (hnb : nb ≤ 1000) (hpa : wfB sa fa na = true) (hpb : wfB sb fb nb = true) (hn0 : nb = 0) :
    Calls Tryz.prog 17 #[.agg #[.bool sa, .slice xa na ca], .agg #[.bool sb, .slice xb nb cb]] w fun en w' => en = .returned (.tuple #[.agg #[.bool false, .slice none 0 0, .slice none 0 0], .int .i64 4]) ∧ Below w.heap.size w w' := by
  have HA0 := hid ha; have HB0 := hid hb
  clear ha hb
  have hnd : ((nb : Int) == 0) = true := by simp; omega
  clear hn0
  go_enter Tryz.func17, Tryz.ntmps17
  go_wp2_with fail
  refine (wForm_c sa xa na ca fa _ (by omega) (((HA0.out.alloc _).alloc _).alloc _)).mono ?_
  rintro e w1 ⟨rfl, hb⟩
  obtain ⟨ba, bb, ob, hw⟩ := mk_boxes hb
  have BB1 := hid bb; have OB1 := hid ob; have HW1 := hid hw
  clear ba bb ob hw hb
  rw [hpa]
  obtain ⟨zb, b0, b1⟩ := BB1.out
  go_wp2_with fail
  refine (wForm_c sb xb nb cb fb _ (by omega) (HB0.out.below HW1.out (Nat.le_refl _))).mono ?_
  rintro e w2 ⟨rfl, hb⟩
  rw [hpb]
  clear zb b0 b1
  have HB := hid (HW1.out.trans (hb.mono HW1.out.size))
  obtain ⟨zb, b0, b1⟩ := BB1.out.below hb
  obtain ⟨hz, z0, z1, z2, zf⟩ := OB1.out.below hb
  clear hb
  go_wp2
  exact bodyPost_ret (v := .tuple #[.agg #[.bool false, .slice none 0 0, .slice none 0 0], .int .i64 4]) (by simp [results, Tryz.results17, go_sem, z0, z1, z2]) rfl ⟨rfl, below_st HB.out (by omega)⟩

end Go.Proofs.YtlpmfmphglgocaaGreatDoor
namespace Go.Proofs.YtlpmfmphglgocaaGreatDoor
open Go.RowKit

theorem own_frozen {k e w base g n c f} (h : Own k e w base (.slice (some ⟨g, 0, none⟩) n c) n f) (j : Nat) : w.frozen? ⟨g, j, none⟩ = false := by
  obtain ⟨h1, h2⟩ := h
  rcases h2 with ⟨h3, h4⟩ | ⟨g, cap', cur, hv, hb', hg, hn, hm, hs, ht⟩
  · cases h3
  · cases hv
    simp [World.frozen?, hg]
/-- 'out = append(out, s...)', out the call's own (or nil), s whatever but not empty: and where the answer lies. -/
theorem wpList_append_where {P : Program} (k : IntKind) (w : World) {ops : Array Oper} {rest : List Oper} {o : Oper} {a : Act} {Q : Exit → Act → World → Prop} (hgd : o.guard = none) (s x : Operand) (t : TypeId)
    (ho : o.op = .call { callee := .builtin .append, args := #[s, x], argTypes := #[t, t] })
    (base : Nat) (e : TypeId) (bytes : Nat) (ht : P.underlying t = some (.slice e)) (h2 : (P.info? e).map (fun i => (i.zero, i.size, i.bytes)) = some (some (.int k 0), 1, bytes))
    (ao : Option Addr) (n cap : Nat) (f : Nat → Int) (hs : a.eval s = .slice ao n cap) (hown : Own k e w base (.slice ao n cap) n f)
    (b ob m c : Nat) (h : Nat → Int) (hx : a.eval x = .slice (some ⟨b, ob, none⟩) m c) (hr : Rd k w (some ⟨b, ob, none⟩) m h) (hm0 : 0 < m)
    (h63 : n + m ≤ maxLen) (hbytes : (n + m) * bytes ≤ 140737488355328) (hbase : base ≤ w.heap.size)
    (hK : ∀ g cap' w', Own k e w' base (.slice (some ⟨g, 0, none⟩) (n + m) cap') (n + m) (cat f n h) → w.grownBy w' (Value.ownBlock (.slice ao n cap)) → (g = w.heap.size ∨ ao = some ⟨g, 0, none⟩) → wpList P ops Q rest (a.put o.dst (.slice (some ⟨g, 0, none⟩) (n + m) cap')) w') : wpList P ops Q (o :: rest) a w := by
  obtain ⟨i, hi, hz0, hz1, hz2⟩ := info_parts h2
  subst hz2
  have hl : (lst k h m).length = m * 1 := by rw [lst_length, Nat.mul_one]
  have hnews : ∀ j u, (lst k h m)[j]? = some u → w.cell? ((⟨b, ob, none⟩ : Addr).add j) = some u := by
    intro j u hu
    obtain ⟨hj, rfl⟩ := lst_getE hu
    have := hr.cell hj
    rw [addr_add]; exact this
  obtain ⟨v', w', hrun, h1', h2', h3'⟩ := run_append_own (P := P) w base t o.type e i (.int k 0) 1 i.bytes ht hi hz0 hz1 rfl rfl (by decide) (.slice ao n cap) n (lst k f n) hown ⟨b, ob, none⟩ m c (lst k h m) hl hnews (lst_one k h m) h63 hbytes hbase
  have hw : ∃ g cap', v' = .slice (some ⟨g, 0, none⟩) (n + m) cap' ∧ (g = w.heap.size ∨ ao = some ⟨g, 0, none⟩) := by
    have hlz : (lst k h m).length = m * i.size := by rw [hz1]; exact hl
    have hsm : n + m ≤ 9223372036854775807 := by unfold maxLen at h63; omega
    rcases hown.2 with ⟨hv, rfl⟩ | ⟨g, cap2, cur, hv, hbg, hg, hnc, hcm, hcs, htake⟩
    · cases hv
      have e1 := run_append_nil (P := P) w t o.type e i (.int k 0) ht hi hz0 ⟨b, ob, none⟩ m c (lst k h m) hlz hnews hm0 (by omega) (by rw [Nat.zero_add] at hbytes; omega)
      rw [e1] at hrun
      injection hrun with e2 e3
      exact ⟨_, _, by rw [← e2, Nat.zero_add], .inl rfl⟩
    · cases hv
      by_cases hroom : n + m ≤ cap
      · have e1 := run_append_room (P := P) w t o.type e i ht hi g n cap cur hg ⟨b, ob, none⟩ m c (lst k h m) hlz hnews (lst_one k h m) hroom (by rw [lst_length, hcs, hz1]; omega)
        rw [e1] at hrun
        injection hrun with e2 e3
        exact ⟨_, _, e2.symm, .inr rfl⟩
      · have holds : ∀ j u, (lst k f n)[j]? = some u → w.cell? ((⟨g, 0, none⟩ : Addr).add j) = some u := World.ownsRow.cells hown (g := g) rfl
        have e1 := run_append_grow (P := P) w t o.type e i (.int k 0) ht hi hz0 ⟨g, 0, none⟩ n cap (lst k f n) (by rw [lst_length, hz1]; omega) holds ⟨b, ob, none⟩ m c (lst k h m) hlz hnews (by omega) (by omega) (growslice_fits (by omega) hbytes)
        rw [e1] at hrun
        injection hrun with e2 e3
        exact ⟨_, _, e2.symm, .inl rfl⟩
  obtain ⟨g, cap', rfl, hg⟩ := hw
  rw [lst_cat] at h1'
  refine wpList_plain hgd fun _ hK' => ?_
  unfold Oper.wp execOp
  simp only [ho, resolve, invoke, builtin, Sem.run_bind, Sem.run_pure, Result.andThen_ok, List.map_toArray, List.map_cons, List.map_nil, hs, hx, hrun]
  exact hK' _ _ (hK g cap' w' h1' h2' hg)
end Go.Proofs.YtlpmfmphglgocaaGreatDoor
namespace Go.Proofs.YtlpmfmphglgocaaGreatDoor
open Go.RowKit

/-- The second round, at list i: what was ahead of it and what is behind it stays. -/
structure KP2 (E : TypeId) (pos : Nat → Nat) (O : Nat → Option Value) (N s2 s3 : Nat) (w6 w : World) (g2 i : Nat) (two : Nat → Ls) : Prop where
  tur : Turned s2 s3 w6 w
  fam : ∃ M, FamP E w g2 N pos O M ∧ ∀ j, i ≤ j → j < N → M j = two j
  own : ∀ j, i ≤ j → j < N → Lsb .u64 28 w (two j)
  dis : ∀ j k, j < N → k < N → j ≠ k → Apart (two j).p (two k).p
  loc : ∀ j, j < N → ∀ a, (two j).p = some a → a.block ≠ g2 ∧ (s2 ≤ a.block ∧ a.block < s3)
  gs : s2 ≤ g2 ∧ g2 < s3
  inj : ∀ i j, i < N → j < N → pos i = pos j → i = j
theorem KP2.drewN {E pos O N s2 s3 w6 w g2 i two} (h : KP2 E pos O N s2 s3 w6 w g2 i two) (q : Nat) : KP2 E pos O N s2 s3 w6 (w.drewN q) g2 i two := ⟨h.tur.drewN q, h.fam, h.own, h.dis, h.loc, h.gs, h.inj⟩
theorem KP2.alloc {E pos O N s2 s3 w6 w g2 i two} (h : KP2 E pos O N s2 s3 w6 w g2 i two) (ob : Obj) : KP2 E pos O N s2 s3 w6 (w.alloc ob) g2 i two :=
  ⟨h.tur.alloc ob, (by obtain ⟨M, h1, h2⟩ := h.fam; exact ⟨M, h1.alloc ob, h2⟩), fun j h1 h2 => (h.own j h1 h2).alloc ob, h.dis, h.loc, h.gs, h.inj⟩
theorem KP2.cell {E pos O N s2 s3 w6 w g2 i two} (h : KP2 E pos O N s2 s3 w6 w g2 i two) (hi : i < N) : w.cell? ⟨g2, pos i, none⟩ = some (.slice (two i).p (two i).n (two i).c) := by
  obtain ⟨M, h1, h2⟩ := h.fam
  rw [h1.cell hi, h2 i (Nat.le_refl _) hi]
theorem KP2.frozen {E pos O N s2 s3 w6 w g2 i two} (h : KP2 E pos O N s2 s3 w6 w g2 i two) (j : Nat) : w.frozen? ⟨g2, j, none⟩ = false := by
  obtain ⟨M, h1, h2⟩ := h.fam
  exact h1.frozen j
theorem KP2.grow {E pos O N s2 s3 w6 w w' g2 i two} (h : KP2 E pos O N s2 s3 w6 w g2 i two) (hi : i < N) (p' : Option Addr) (n' c' : Nat) (hg : w.grownBy w' (Value.ownBlock (.slice (two i).p (two i).n (two i).c))) :
    KP2 E pos O N s2 s3 w6 (w'.setCell ⟨g2, pos i, none⟩ (.slice p' n' c')) g2 (i + 1) two ∧ w'.cell? ⟨g2, pos i, none⟩ = some (.slice (two i).p (two i).n (two i).c) ∧ w'.frozen? ⟨g2, pos i, none⟩ = false := by
  obtain ⟨M, h1, h2⟩ := h.fam
  have hrow : ∀ b, Value.ownBlock (.slice (two i).p (two i).n (two i).c) = some b → ∃ a, (two i).p = some a ∧ a.block = b := by
    intro b hb
    cases hp : (two i).p with
    | none => rw [hp] at hb; cases hb
    | some a => rw [hp] at hb; exact ⟨a, rfl, by simpa [Value.ownBlock] using hb⟩
  have hkeep : ∀ k, k < w.heap.size → (∀ a, (two i).p = some a → a.block ≠ k) → w'.heap[k]? = w.heap[k]? := by
    intro k hk hn
    refine hg.block k hk (fun e => ?_)
    obtain ⟨a, ha, hb⟩ := hrow k e.symm
    exact hn a ha hb
  have hfam : FamP E w' g2 N pos O M := h1.of (hkeep g2 h1.lt (fun a ha => (h.loc i hi a ha).1))
  have htur : Turned s2 s3 w6 w' := h.tur.grown hg (fun b hb => by
    obtain ⟨a, ha, rfl⟩ := hrow b hb
    exact .inl (h.loc i hi a ha).2)
  refine ⟨⟨htur.set' (.inl h.gs) _, ⟨_, hfam.set h.inj hi ⟨p', n', c', fun _ => 0⟩, fun j hj hj8 => ?_⟩, fun j hj hj8 => ?_, h.dis, h.loc, h.gs, h.inj⟩, ?_, hfam.frozen (pos i)⟩
  · rw [updL_other _ _ _ _ (by omega)]; exact h2 j (by omega) hj8
  · refine (h.own j (by omega) hj8).of (fun a ha => ?_)
    exact (Below.heap_setCell _ _ _ _ (h.loc j hj8 a ha).1).trans (hkeep _ ((h.own j (by omega) hj8).lt a ha) (fun b hb e => h.dis j i hj8 hi (by omega) a b ha hb e.symm))
  · rw [hfam.cell hi, h2 i (Nat.le_refl _) hi]
end Go.Proofs.YtlpmfmphglgocaaGreatDoor
namespace Go.Proofs.YtlpmfmphglgocaaGreatDoor
open Go.RowKit

theorem rAdd_go {w : World} {sa : Bool} {xa : Option Addr} {na ca : Nat} {fa : Nat → Int} {ya : Option Addr} {ma ea : Nat} {ga : Nat → Int} {sb : Bool} {xb : Option Addr} {nb cb : Nat} {fb : Nat → Int} {yb : Option Addr} {mb eb : Nat} {gb : Nat → Int} (ha : Rw w xa na ca fa ya ma ea ga) (hb : Rw w xb nb cb fb yb mb eb gb) (hna : na ≤ 1000) (hma : ma ≤ 1000) (hnb : nb ≤ 1000) (hmb : mb ≤ 1000) {qa qb : Rat} {pa pb : Bool} (hpa : rfB sa fa na ga ma = pa) (hpb : rfB sb fb nb gb mb = pb) (hqa : pa = true → Rn 100 w sa xa na ca fa ya ma ea ga qa) (hqb : pb = true → Rn 100 w sb xb nb cb fb yb mb eb gb qb) :
    Calls Tryz.prog 19 #[.agg #[.bool sa, .slice xa na ca, .slice ya ma ea], .agg #[.bool sb, .slice xb nb cb, .slice yb mb eb]] w fun en w' => ∃ s x n c f y m d g er, en = .returned (.tuple #[.agg #[.bool s, .slice x n c, .slice y m d], .int .i64 er]) ∧ Below w.heap.size w w' ∧ OQ (pa && pb) 0 qa qb w' s x n c f y m d g er ∧ Of2 w w' x n c f y m d g := by
  cases hp : (pa && pb)
  · exact (rAddErr_c ha hb hna hma hnb hmb (by rw [hpa, hpb]; exact hp)).mono (fun _ _ ⟨k1, k2⟩ => ⟨false, none, 0, 0, fun _ => 0, none, 0, 0, fun _ => 0, 3, k1, k2, .inl ⟨rfl, rfl, rfl, rfl, rfl⟩, of2_nil _ _⟩)
  · have hpp : pa = true ∧ pb = true := by simpa using hp
    exact (rAdd_o (hqa hpp.1) (hqb hpp.2) (by omega)).mono (fun _ _ ⟨s, x, n, c, f, y, m, d, g, k1, k2, k3, k4⟩ => ⟨s, x, n, c, f, y, m, d, g, 0, k1, k2, .inr (.inr ⟨rfl, fun h => by omega, rfl, k3.mono (by omega)⟩), k4⟩)
theorem rSub_go {w : World} {sa : Bool} {xa : Option Addr} {na ca : Nat} {fa : Nat → Int} {ya : Option Addr} {ma ea : Nat} {ga : Nat → Int} {sb : Bool} {xb : Option Addr} {nb cb : Nat} {fb : Nat → Int} {yb : Option Addr} {mb eb : Nat} {gb : Nat → Int} (ha : Rw w xa na ca fa ya ma ea ga) (hb : Rw w xb nb cb fb yb mb eb gb) (hna : na ≤ 1000) (hma : ma ≤ 1000) (hnb : nb ≤ 1000) (hmb : mb ≤ 1000) {qa qb : Rat} {pa pb : Bool} (hpa : rfB sa fa na ga ma = pa) (hpb : rfB sb fb nb gb mb = pb) (hqa : pa = true → Rn 100 w sa xa na ca fa ya ma ea ga qa) (hqb : pb = true → Rn 100 w sb xb nb cb fb yb mb eb gb qb) :
    Calls Tryz.prog 27 #[.agg #[.bool sa, .slice xa na ca, .slice ya ma ea], .agg #[.bool sb, .slice xb nb cb, .slice yb mb eb]] w fun en w' => ∃ s x n c f y m d g er, en = .returned (.tuple #[.agg #[.bool s, .slice x n c, .slice y m d], .int .i64 er]) ∧ Below w.heap.size w w' ∧ OQ (pa && pb) 1 qa qb w' s x n c f y m d g er ∧ Of2 w w' x n c f y m d g := by
  cases hp : (pa && pb)
  · exact (rSubErr_c ha hb hna hma hnb hmb (by rw [hpa, hpb]; exact hp)).mono (fun _ _ ⟨k1, k2⟩ => ⟨false, none, 0, 0, fun _ => 0, none, 0, 0, fun _ => 0, 3, k1, k2, .inl ⟨rfl, rfl, rfl, rfl, rfl⟩, of2_nil _ _⟩)
  · have hpp : pa = true ∧ pb = true := by simpa using hp
    exact (rSub_o (hqa hpp.1) (hqb hpp.2) (by omega)).mono (fun _ _ ⟨s, x, n, c, f, y, m, d, g, k1, k2, k3, k4⟩ => ⟨s, x, n, c, f, y, m, d, g, 0, k1, k2, .inr (.inr ⟨rfl, fun h => by omega, rfl, k3.mono (by omega)⟩), k4⟩)
theorem rMul_go {w : World} {sa : Bool} {xa : Option Addr} {na ca : Nat} {fa : Nat → Int} {ya : Option Addr} {ma ea : Nat} {ga : Nat → Int} {sb : Bool} {xb : Option Addr} {nb cb : Nat} {fb : Nat → Int} {yb : Option Addr} {mb eb : Nat} {gb : Nat → Int} (ha : Rw w xa na ca fa ya ma ea ga) (hb : Rw w xb nb cb fb yb mb eb gb) (hna : na ≤ 1000) (hma : ma ≤ 1000) (hnb : nb ≤ 1000) (hmb : mb ≤ 1000) {qa qb : Rat} {pa pb : Bool} (hpa : rfB sa fa na ga ma = pa) (hpb : rfB sb fb nb gb mb = pb) (hqa : pa = true → Rn 100 w sa xa na ca fa ya ma ea ga qa) (hqb : pb = true → Rn 100 w sb xb nb cb fb yb mb eb gb qb) :
    Calls Tryz.prog 28 #[.agg #[.bool sa, .slice xa na ca, .slice ya ma ea], .agg #[.bool sb, .slice xb nb cb, .slice yb mb eb]] w fun en w' => ∃ s x n c f y m d g er, en = .returned (.tuple #[.agg #[.bool s, .slice x n c, .slice y m d], .int .i64 er]) ∧ Below w.heap.size w w' ∧ OQ (pa && pb) 2 qa qb w' s x n c f y m d g er ∧ Of2 w w' x n c f y m d g := by
  cases hp : (pa && pb)
  · exact (rMulErr_c ha hb hna hma hnb hmb (by rw [hpa, hpb]; exact hp)).mono (fun _ _ ⟨k1, k2⟩ => ⟨false, none, 0, 0, fun _ => 0, none, 0, 0, fun _ => 0, 3, k1, k2, .inl ⟨rfl, rfl, rfl, rfl, rfl⟩, of2_nil _ _⟩)
  · have hpp : pa = true ∧ pb = true := by simpa using hp
    exact (rMul_o (hqa hpp.1) (hqb hpp.2) (by omega)).mono (fun _ _ ⟨s, x, n, c, f, y, m, d, g, k1, k2, k3, k4⟩ => ⟨s, x, n, c, f, y, m, d, g, 0, k1, k2, .inr (.inr ⟨rfl, fun h => by omega, rfl, k3.mono (by omega)⟩), k4⟩)
theorem rQuo_go {w : World} {sa : Bool} {xa : Option Addr} {na ca : Nat} {fa : Nat → Int} {ya : Option Addr} {ma ea : Nat} {ga : Nat → Int} {sb : Bool} {xb : Option Addr} {nb cb : Nat} {fb : Nat → Int} {yb : Option Addr} {mb eb : Nat} {gb : Nat → Int} (ha : Rw w xa na ca fa ya ma ea ga) (hb : Rw w xb nb cb fb yb mb eb gb) (hna : na ≤ 1000) (hma : ma ≤ 1000) (hnb : nb ≤ 1000) (hmb : mb ≤ 1000) {qa qb : Rat} {pa pb : Bool} (hpa : rfB sa fa na ga ma = pa) (hpb : rfB sb fb nb gb mb = pb) (hqa : pa = true → Rn 100 w sa xa na ca fa ya ma ea ga qa) (hqb : pb = true → Rn 100 w sb xb nb cb fb yb mb eb gb qb) :
    Calls Tryz.prog 29 #[.agg #[.bool sa, .slice xa na ca, .slice ya ma ea], .agg #[.bool sb, .slice xb nb cb, .slice yb mb eb]] w fun en w' => ∃ s x n c f y m d g er, en = .returned (.tuple #[.agg #[.bool s, .slice x n c, .slice y m d], .int .i64 er]) ∧ Below w.heap.size w w' ∧ OQ (pa && pb) 3 qa qb w' s x n c f y m d g er ∧ Of2 w w' x n c f y m d g := by
  cases hp : (pa && pb)
  · exact (rQuoErr_c ha hb hna hma hnb hmb (by rw [hpa, hpb]; exact hp)).mono (fun _ _ ⟨k1, k2⟩ => ⟨false, none, 0, 0, fun _ => 0, none, 0, 0, fun _ => 0, 3, k1, k2, .inl ⟨rfl, rfl, rfl, rfl, rfl⟩, of2_nil _ _⟩)
  · have hpp : pa = true ∧ pb = true := by simpa using hp
    by_cases hz : nb = 0
    · exact (rQuoZero_c ha hb hna hma hnb hmb (by rw [hpa]; exact hpp.1) (by rw [hpb]; exact hpp.2) hz).mono (fun _ _ ⟨k1, k2⟩ => ⟨false, none, 0, 0, fun _ => 0, none, 0, 0, fun _ => 0, 4, k1, k2, .inr (.inl ⟨rfl, ⟨rfl, (hqb hpp.2).num_zero.2 hz⟩, rfl, rfl, rfl, rfl⟩), of2_nil _ _⟩)
    · exact (rQuo_o (hqa hpp.1) (hqb hpp.2) (by omega) (by omega)).mono (fun _ _ ⟨s, x, n, c, f, y, m, d, g, k1, k2, k3, k4⟩ => ⟨s, x, n, c, f, y, m, d, g, 0, k1, k2, .inr (.inr ⟨rfl, fun h => hz ((hqb hpp.2).num_zero.1 h.2), rfl, k3.mono (by omega)⟩), k4⟩)

theorem rMake_go {w : World} {sa : Bool} {xa : Option Addr} {na ca : Nat} {fa : Nat → Int} {sb : Bool} {xb : Option Addr} {nb cb : Nat} {fb : Nat → Int} (ha : Rd .u64 w xa na fa) (la : Lm fa na) (pa : na ≤ ca ∧ ca ≤ 9223372036854775807) (oa : xa = none → na = 0 ∧ ca = 0) (hb : Rd .u64 w xb nb fb) (lb : Lm fb nb) (pb : nb ≤ cb ∧ cb ≤ 9223372036854775807) (ob : xb = none → nb = 0 ∧ cb = 0) (hna : na ≤ 100) (hnb : nb ≤ 100) :
    Calls Tryz.prog 17 #[.agg #[.bool sa, .slice xa na ca], .agg #[.bool sb, .slice xb nb cb]] w fun en w' => ∃ s x n c f y m d g er, en = .returned (.tuple #[.agg #[.bool s, .slice x n c, .slice y m d], .int .i64 er]) ∧ Below w.heap.size w w' ∧ OQ (wfB sa fa na && wfB sb fb nb) 3 (wv sa fa na : Int) (wv sb fb nb : Int) w' s x n c f y m d g er ∧ Of2 w w' x n c f y m d g := by
  cases hp : (wfB sa fa na && wfB sb fb nb)
  · exact (rMakeErr_c ha hb (by omega) (by omega) hp).mono (fun _ _ ⟨k1, k2⟩ => ⟨false, none, 0, 0, fun _ => 0, none, 0, 0, fun _ => 0, 3, k1, k2, .inl ⟨rfl, rfl, rfl, rfl, rfl⟩, of2_nil _ _⟩)
  · have hpp : wfB sa fa na = true ∧ wfB sb fb nb = true := by simpa using hp
    have wa : Wn w sa xa na ca fa (wv sa fa na) := ⟨ha, la, hpp.1, pa, oa, rfl⟩
    have wb : Wn w sb xb nb cb fb (wv sb fb nb) := ⟨hb, lb, hpp.2, pb, ob, rfl⟩
    by_cases hz : nb = 0
    · exact (rMakeZero_c ha hb (by omega) (by omega) hpp.1 hpp.2 hz).mono (fun _ _ ⟨k1, k2⟩ => ⟨false, none, 0, 0, fun _ => 0, none, 0, 0, fun _ => 0, 4, k1, k2, .inr (.inl ⟨rfl, ⟨rfl, by rw [Rat.num_intCast, hz]; cases sb <;> rfl⟩, rfl, rfl, rfl, rfl⟩), of2_nil _ _⟩)
    · have hv : wv sb fb nb ≠ 0 := by
        have h1 := vf_pos lb wb.fm (by omega)
        cases sb
        · rw [wv_false]; omega
        · rw [wv_true]; omega
      exact (rMake_o wa wb (L := 100) hv (by omega) (by omega) (by omega)).mono (fun _ _ ⟨s, x, n, c, f, y, m, d, g, k1, k2, k3, k4⟩ => ⟨s, x, n, c, f, y, m, d, g, 0, k1, k2, .inr (.inr ⟨rfl, fun h => hv (by have := h.2; rwa [Rat.num_intCast] at this), rfl, k3.mono (by omega)⟩), k4⟩)

theorem rNeg_go {w : World} {sa : Bool} {xa : Option Addr} {na ca : Nat} {fa : Nat → Int} {ya : Option Addr} {ma ea : Nat} {ga : Nat → Int} (ha : Rw w xa na ca fa ya ma ea ga) (hna : na ≤ 1000) (hma : ma ≤ 1000) {qa : Rat} {pa : Bool} (hpa : rfB sa fa na ga ma = pa) (hqa : pa = true → Rn 100 w sa xa na ca fa ya ma ea ga qa) :
    Calls Tryz.prog 30 #[.agg #[.bool sa, .slice xa na ca, .slice ya ma ea]] w fun en w' => ∃ s x n c f y m d g er, en = .returned (.tuple #[.agg #[.bool s, .slice x n c, .slice y m d], .int .i64 er]) ∧ Below w.heap.size w w' ∧ OQ pa 0 (-qa) 0 w' s x n c f y m d g er ∧ Of2 w w' x n c f y m d g := by
  cases hp : pa
  · exact (rNegErr_c ha hna hma (by rw [hpa]; exact hp)).mono (fun _ _ ⟨k1, k2⟩ => ⟨false, none, 0, 0, fun _ => 0, none, 0, 0, fun _ => 0, 3, k1, k2, .inl ⟨rfl, rfl, rfl, rfl, rfl⟩, of2_nil _ _⟩)
  · exact (rNeg_o (hqa hp) (by omega)).mono (fun _ _ ⟨s, x, n, c, f, y, m, d, g, k1, k2, k3, k4⟩ => ⟨s, x, n, c, f, y, m, d, g, 0, k1, k2, .inr (.inr ⟨rfl, fun h => by omega, rfl, by show Rn 2000 _ _ _ _ _ _ _ _ _ _ (-qa + 0); rw [Rat.add_zero]; exact k3.mono (by omega)⟩), k4⟩)
/-- What an answer tells: nothing, or a number in form. -/
def oqv (p : Bool) (kind : Nat) (qa qb : Rat) : Option Rat := if p = false then none else if kind = 3 ∧ qb.num = 0 then none else some (kq kind qa qb)
theorem OQ.rvq {p kind qa qb w' s x n c f y m d g er} (h : OQ p kind qa qb w' s x n c f y m d g er) : RvQ s ⟨x, n, c, f⟩ ⟨y, m, d, g⟩ (oqv p kind qa qb) := by
  rcases h with ⟨h1, _, h3, h4, h5⟩ | ⟨h1, h2, _, h3, h4, h5⟩ | ⟨h1, h2, _, h4⟩
  · have e : oqv p kind qa qb = none := by unfold oqv; rw [if_pos h1]
    rw [e]
    exact ⟨⟨lm_z h3, lm_z h4⟩, ⟨by show n ≤ 2000; omega, by show m ≤ 2000; omega⟩, fun _ => ⟨h5, h3, h4⟩, fun q e => by cases e⟩
  · have e : oqv p kind qa qb = none := by unfold oqv; rw [if_neg (by rw [h1]; decide), if_pos h2]
    rw [e]
    exact ⟨⟨lm_z h3, lm_z h4⟩, ⟨by show n ≤ 2000; omega, by show m ≤ 2000; omega⟩, fun _ => ⟨h5, h3, h4⟩, fun q e => by cases e⟩
  · have e : oqv p kind qa qb = some (kq kind qa qb) := by unfold oqv; rw [if_neg (by rw [h1]; decide), if_neg h2]
    rw [e]
    exact h4.rvq (Nat.le_refl _)
end Go.Proofs.YtlpmfmphglgocaaGreatDoor
namespace Go.Proofs.YtlpmfmphglgocaaGreatDoor
open Go.RowKit

/-- The answers, in their order. -/
def ransV (sa : Bool) (fa : Nat → Int) (na : Nat) (ga : Nat → Int) (ma : Nat) (pa pb : Bool) (qa qb : Rat) : Nat → Option Rat
  | 0 => oqv (pa && pb) 0 qa qb
  | 1 => oqv (pa && pb) 1 qa qb
  | 2 => oqv (pa && pb) 2 qa qb
  | 3 => oqv (pa && pb) 3 qa qb
  | 4 => oqv pa 0 (-qa) 0
  | 5 => oqv (wfB sa fa na && wfB false ga ma) 3 (wv sa fa na : Int) (wv false ga ma : Int)
  | 6 => some ((5 : Int) : Rat)
  | _ => some ((0 : Int) : Rat)
def posR (i : Nat) : Nat := 3 * (i / 2) + 1 + i % 2
def othR (S : Nat → Bool) (t : Nat) : Option Value := if t < 24 then some (.bool (S (t / 3))) else none
theorem posR_inj : ∀ i j, i < 16 → j < 16 → posR i = posR j → i = j := by
  intro i j _ _ h
  unfold posR at h
  omega
theorem famR (w : World) (S : Nat → Bool) (L : Nat → Ls) : FamP 24 (w.alloc (.cells #[.bool (S 0), .slice (L 0).p (L 0).n (L 0).c, .slice (L 1).p (L 1).n (L 1).c, .bool (S 1), .slice (L 2).p (L 2).n (L 2).c, .slice (L 3).p (L 3).n (L 3).c, .bool (S 2), .slice (L 4).p (L 4).n (L 4).c, .slice (L 5).p (L 5).n (L 5).c, .bool (S 3), .slice (L 6).p (L 6).n (L 6).c, .slice (L 7).p (L 7).n (L 7).c, .bool (S 4), .slice (L 8).p (L 8).n (L 8).c, .slice (L 9).p (L 9).n (L 9).c, .bool (S 5), .slice (L 10).p (L 10).n (L 10).c, .slice (L 11).p (L 11).n (L 11).c, .bool (S 6), .slice (L 12).p (L 12).n (L 12).c, .slice (L 13).p (L 13).n (L 13).c, .bool (S 7), .slice (L 14).p (L 14).n (L 14).c, .slice (L 15).p (L 15).n (L 15).c] 24)) w.heap.size 16 posR (othR S) L := by
  refine ⟨_, heap_alloc_new w _, all16 rfl rfl rfl rfl rfl rfl rfl rfl rfl rfl rfl rfl rfl rfl rfl rfl, fun t ht => ?_⟩
  by_cases h : t < 24
  · obtain ⟨k, rfl | h1 | h1⟩ : ∃ k, t = 3 * k ∨ t = 3 * k + 1 ∨ t = 3 * k + 2 := ⟨t / 3, by omega⟩
    · have hk : k < 8 := by omega
      unfold othR
      rw [if_pos h, show 3 * k / 3 = k by omega]
      match k, hk with
      | 0, _ => rfl
      | 1, _ => rfl
      | 2, _ => rfl
      | 3, _ => rfl
      | 4, _ => rfl
      | 5, _ => rfl
      | 6, _ => rfl
      | 7, _ => rfl
      | k + 8, h => omega
    · exact absurd (show posR (2 * k) = t by unfold posR; omega) (ht (2 * k) (by omega))
    · exact absurd (show posR (2 * k + 1) = t by unfold posR; omega) (ht (2 * k + 1) (by omega))
  · unfold othR
    rw [if_neg h]
    exact Array.getElem?_eq_none (by simp; omega)
/-- Numbers that a call answers: in blocks of their own. -/
structure AnsR (w w' : World) (g : Nat) (S : Nat → Bool) (L : Nat → Ls) (V : Nat → Option Rat) : Prop where
  bel : Below w.heap.size w w'
  fam : FamP 24 w' g 16 posR (othR S) L
  gs : w.heap.size ≤ g
  up : Up 8 w w' S L V
  ng : ∀ j, j < 16 → ∀ a, (L j).p = some a → a.block ≠ g
theorem ansR8 {w0 w : World} {S L V} (hb : Below w0.heap.size w0 w) (h : Up 8 w0 w S L V) : AnsR w0 (w.alloc (.cells #[.bool (S 0), .slice (L 0).p (L 0).n (L 0).c, .slice (L 1).p (L 1).n (L 1).c, .bool (S 1), .slice (L 2).p (L 2).n (L 2).c, .slice (L 3).p (L 3).n (L 3).c, .bool (S 2), .slice (L 4).p (L 4).n (L 4).c, .slice (L 5).p (L 5).n (L 5).c, .bool (S 3), .slice (L 6).p (L 6).n (L 6).c, .slice (L 7).p (L 7).n (L 7).c, .bool (S 4), .slice (L 8).p (L 8).n (L 8).c, .slice (L 9).p (L 9).n (L 9).c, .bool (S 5), .slice (L 10).p (L 10).n (L 10).c, .slice (L 11).p (L 11).n (L 11).c, .bool (S 6), .slice (L 12).p (L 12).n (L 12).c, .slice (L 13).p (L 13).n (L 13).c, .bool (S 7), .slice (L 14).p (L 14).n (L 14).c, .slice (L 15).p (L 15).n (L 15).c] 24)) w.heap.size S L V :=
  ⟨hb.alloc hb.size _, famR w S L, hb.size, h.later (below_alloc (Below.refl _ w) _), fun j hj a ha => Nat.ne_of_lt ((h.own j hj).lt a ha)⟩

set_option maxRecDepth 100000 in
set_option maxHeartbeats 8000000 in
theorem rAnswers_c {w : World} {sa : Bool} {xa : Option Addr} {na ca : Nat} {fa : Nat → Int} {ya : Option Addr} {ma da : Nat} {ga : Nat → Int} {sb : Bool} {xb : Option Addr} {nb cb : Nat} {fb : Nat → Int} {yb : Option Addr} {mb db : Nat} {gb : Nat → Int} (ha : Rw w xa na ca fa ya ma da ga) (hb : Rw w xb nb cb fb yb mb db gb) (hna : na ≤ 100) (hma : ma ≤ 100) (hnb : nb ≤ 100) (hmb : mb ≤ 100) {qa qb : Rat} {pa pb : Bool} (hpa : rfB sa fa na ga ma = pa) (hpb : rfB sb fb nb gb mb = pb) (hqa : pa = true → Rn 100 w sa xa na ca fa ya ma da ga qa) (hqb : pb = true → Rn 100 w sb xb nb cb fb yb mb db gb qb) :
    Calls Tryz.prog 8 #[.agg #[.bool sa, .slice xa na ca, .slice ya ma da], .agg #[.bool sb, .slice xb nb cb, .slice yb mb db]] w fun e w' => ∃ g S L, e = .returned (.slice (some ⟨g, 0, none⟩) 8 8) ∧ AnsR w w' g S L (ransV sa fa na ga ma pa pb qa qb) := by
  have hb0 := below_alloc (below_alloc (Below.refl w.heap.size w) (.cells #[.bool sa, .slice xa na ca, .slice ya ma da] 24)) (.cells #[.bool sb, .slice xb nb cb, .slice yb mb db] 24)
  have HA := hid (ha.below hb0); have HC := hid (hb.below hb0); have HB := hid hb0
  have HPA := hid hpa; have HPB := hid hpb; have HQA := hid hqa; have HQB := hid hqb
  have U := hid (Up.nil w ((w.alloc (.cells #[.bool sa, .slice xa na ca, .slice ya ma da] 24)).alloc (.cells #[.bool sb, .slice xb nb cb, .slice yb mb db] 24)) (fun _ => false) (fun _ => ⟨none, 0, 0, fun _ => 0⟩) (ransV sa fa na ga ma pa pb qa qb))
  have BA := hid ((bx3_at w (.bool sa) (.slice xa na ca) (.slice ya ma da) 24).alloc (.cells #[.bool sb, .slice xb nb cb, .slice yb mb db] 24))
  have BB : Hid (Bx3 ((w.alloc (.cells #[.bool sa, .slice xa na ca, .slice ya ma da] 24)).alloc (.cells #[.bool sb, .slice xb nb cb, .slice yb mb db] 24)) (w.heap.size + 1) (.bool sb) (.slice xb nb cb) (.slice yb mb db)) := by
    have := bx3_at (w.alloc (.cells #[.bool sa, .slice xa na ca, .slice ya ma da] 24)) (.bool sb) (.slice xb nb cb) (.slice yb mb db) 24
    rw [size_alloc1] at this
    exact this
  clear ha hb hpa hpb hqa hqb hb0
  go_enter Tryz.func8, Tryz.ntmps8
  go_wp2_with fail
  generalize ((w.alloc (.cells #[.bool sa, .slice xa na ca, .slice ya ma da] 24)).alloc (.cells #[.bool sb, .slice xb nb cb, .slice yb mb db] 24)) = v0 at *
  obtain ⟨za, a0, a1, a2⟩ := BA.out; obtain ⟨zb, b0, b1, b2⟩ := BB.out
  go_wp2_with fail
  clear za a0 a1 a2 zb b0 b1 b2
  refine (rAdd_go HA.out HC.out (by omega) (by omega) (by omega) (by omega) HPA.out HPB.out (fun h => (HQA.out h).moved HA.out) (fun h => (HQB.out h).moved HC.out)).mono ?_
  rintro e w1 ⟨s0, x0, n0, c0, f0, y0, m0, d0, g0, er, rfl, hb, hq, ho⟩
  have U2 := hid ((U.out.add HB.out.size hb ho hq.rvq).later (below_alloc (Below.refl _ _) (.cells #[.bool s0, .slice x0 n0 c0, .slice y0 m0 d0] 24)))
  have hbb := below_alloc hb (.cells #[.bool s0, .slice x0 n0 c0, .slice y0 m0 d0] 24)
  have BN := hid (bx3_at w1 (.bool s0) (.slice x0 n0 c0) (.slice y0 m0 d0) 24)
  obtain ⟨za, a0, a1, a2⟩ := BA.out.below hb; obtain ⟨zb, b0, b1, b2⟩ := BB.out.below hb
  clear hq ho hb U
  have HA2 := hid (HA.out.below hbb); have HC2 := hid (HC.out.below hbb); have HB2 := hid (HB.out.trans (hbb.mono HB.out.size))
  have YA := hid (BA.out.below hbb)
  have YB := hid (BB.out.below hbb)
  clear HA HC HB hbb BA BB
  have HA := HA2; have HC := HC2; have HB := HB2; have U := U2
  clear HA2 HC2 HB2 U2
  have BA := YA
  clear YA
  have BB := YB
  clear YB
  have B0 := BN
  clear BN
  go_wp2_with fail
  clear za a0 a1 a2 zb b0 b1 b2
  generalize hW0 : w1.alloc (.cells #[.bool s0, .slice x0 n0 c0, .slice y0 m0 d0] 24) = v1 at *
  generalize w1.heap.size = z0 at *
  clear hW0
  refine (rSub_go HA.out HC.out (by omega) (by omega) (by omega) (by omega) HPA.out HPB.out (fun h => (HQA.out h).moved HA.out) (fun h => (HQB.out h).moved HC.out)).mono ?_
  rintro e w2 ⟨s1, x1, n1, c1, f1, y1, m1, d1, g1, er, rfl, hb, hq, ho⟩
  have U2 := hid ((U.out.add HB.out.size hb ho hq.rvq).later (below_alloc (Below.refl _ _) (.cells #[.bool s1, .slice x1 n1 c1, .slice y1 m1 d1] 24)))
  have hbb := below_alloc hb (.cells #[.bool s1, .slice x1 n1 c1, .slice y1 m1 d1] 24)
  have BN := hid (bx3_at w2 (.bool s1) (.slice x1 n1 c1) (.slice y1 m1 d1) 24)
  obtain ⟨za, a0, a1, a2⟩ := BA.out.below hb; obtain ⟨zb, b0, b1, b2⟩ := BB.out.below hb
  clear hq ho hb U
  have HA2 := hid (HA.out.below hbb); have HC2 := hid (HC.out.below hbb); have HB2 := hid (HB.out.trans (hbb.mono HB.out.size))
  have YA := hid (BA.out.below hbb)
  have YB := hid (BB.out.below hbb)
  have Y0 := hid (B0.out.below hbb)
  clear HA HC HB hbb BA BB B0
  have HA := HA2; have HC := HC2; have HB := HB2; have U := U2
  clear HA2 HC2 HB2 U2
  have BA := YA
  clear YA
  have BB := YB
  clear YB
  have B0 := Y0
  clear Y0
  have B1 := BN
  clear BN
  go_wp2_with fail
  clear za a0 a1 a2 zb b0 b1 b2
  generalize hW1 : w2.alloc (.cells #[.bool s1, .slice x1 n1 c1, .slice y1 m1 d1] 24) = v2 at *
  generalize w2.heap.size = z1 at *
  clear hW1
  refine (rMul_go HA.out HC.out (by omega) (by omega) (by omega) (by omega) HPA.out HPB.out (fun h => (HQA.out h).moved HA.out) (fun h => (HQB.out h).moved HC.out)).mono ?_
  rintro e w3 ⟨s2, x2, n2, c2, f2, y2, m2, d2, g2, er, rfl, hb, hq, ho⟩
  have U2 := hid ((U.out.add HB.out.size hb ho hq.rvq).later (below_alloc (Below.refl _ _) (.cells #[.bool s2, .slice x2 n2 c2, .slice y2 m2 d2] 24)))
  have hbb := below_alloc hb (.cells #[.bool s2, .slice x2 n2 c2, .slice y2 m2 d2] 24)
  have BN := hid (bx3_at w3 (.bool s2) (.slice x2 n2 c2) (.slice y2 m2 d2) 24)
  obtain ⟨za, a0, a1, a2⟩ := BA.out.below hb; obtain ⟨zb, b0, b1, b2⟩ := BB.out.below hb
  clear hq ho hb U
  have HA2 := hid (HA.out.below hbb); have HC2 := hid (HC.out.below hbb); have HB2 := hid (HB.out.trans (hbb.mono HB.out.size))
  have YA := hid (BA.out.below hbb)
  have YB := hid (BB.out.below hbb)
  have Y0 := hid (B0.out.below hbb)
  have Y1 := hid (B1.out.below hbb)
  clear HA HC HB hbb BA BB B0 B1
  have HA := HA2; have HC := HC2; have HB := HB2; have U := U2
  clear HA2 HC2 HB2 U2
  have BA := YA
  clear YA
  have BB := YB
  clear YB
  have B0 := Y0
  clear Y0
  have B1 := Y1
  clear Y1
  have B2 := BN
  clear BN
  go_wp2_with fail
  clear za a0 a1 a2 zb b0 b1 b2
  generalize hW2 : w3.alloc (.cells #[.bool s2, .slice x2 n2 c2, .slice y2 m2 d2] 24) = v3 at *
  generalize w3.heap.size = z2 at *
  clear hW2
  refine (rQuo_go HA.out HC.out (by omega) (by omega) (by omega) (by omega) HPA.out HPB.out (fun h => (HQA.out h).moved HA.out) (fun h => (HQB.out h).moved HC.out)).mono ?_
  rintro e w4 ⟨s3, x3, n3, c3, f3, y3, m3, d3, g3, er, rfl, hb, hq, ho⟩
  have U2 := hid ((U.out.add HB.out.size hb ho hq.rvq).later (below_alloc (Below.refl _ _) (.cells #[.bool s3, .slice x3 n3 c3, .slice y3 m3 d3] 24)))
  have hbb := below_alloc hb (.cells #[.bool s3, .slice x3 n3 c3, .slice y3 m3 d3] 24)
  have BN := hid (bx3_at w4 (.bool s3) (.slice x3 n3 c3) (.slice y3 m3 d3) 24)
  obtain ⟨za, a0, a1, a2⟩ := BA.out.below hb; obtain ⟨zb, b0, b1, b2⟩ := BB.out.below hb
  clear hq ho hb U
  have HA2 := hid (HA.out.below hbb); have HC2 := hid (HC.out.below hbb); have HB2 := hid (HB.out.trans (hbb.mono HB.out.size))
  have YA := hid (BA.out.below hbb)
  have YB := hid (BB.out.below hbb)
  have Y0 := hid (B0.out.below hbb)
  have Y1 := hid (B1.out.below hbb)
  have Y2 := hid (B2.out.below hbb)
  clear HA HC HB hbb BA BB B0 B1 B2
  have HA := HA2; have HC := HC2; have HB := HB2; have U := U2
  clear HA2 HC2 HB2 U2
  have BA := YA
  clear YA
  have BB := YB
  clear YB
  have B0 := Y0
  clear Y0
  have B1 := Y1
  clear Y1
  have B2 := Y2
  clear Y2
  have B3 := BN
  clear BN
  go_wp2_with fail
  clear za a0 a1 a2 zb b0 b1 b2
  generalize hW3 : w4.alloc (.cells #[.bool s3, .slice x3 n3 c3, .slice y3 m3 d3] 24) = v4 at *
  generalize w4.heap.size = z3 at *
  clear hW3
  refine (rNeg_go HA.out (by omega) (by omega) HPA.out (fun h => (HQA.out h).moved HA.out)).mono ?_
  rintro e w5 ⟨s4, x4, n4, c4, f4, y4, m4, d4, g4, er, rfl, hb, hq, ho⟩
  have U2 := hid ((U.out.add HB.out.size hb ho hq.rvq).later (below_alloc (Below.refl _ _) (.cells #[.bool s4, .slice x4 n4 c4, .slice y4 m4 d4] 24)))
  have hbb := below_alloc hb (.cells #[.bool s4, .slice x4 n4 c4, .slice y4 m4 d4] 24)
  have BN := hid (bx3_at w5 (.bool s4) (.slice x4 n4 c4) (.slice y4 m4 d4) 24)
  obtain ⟨za, a0, a1, a2⟩ := BA.out.below hb; obtain ⟨zb, b0, b1, b2⟩ := BB.out.below hb
  clear hq ho hb U
  have HA2 := hid (HA.out.below hbb); have HC2 := hid (HC.out.below hbb); have HB2 := hid (HB.out.trans (hbb.mono HB.out.size))
  have YA := hid (BA.out.below hbb)
  have YB := hid (BB.out.below hbb)
  have Y0 := hid (B0.out.below hbb)
  have Y1 := hid (B1.out.below hbb)
  have Y2 := hid (B2.out.below hbb)
  have Y3 := hid (B3.out.below hbb)
  clear HA HC HB hbb BA BB B0 B1 B2 B3
  have HA := HA2; have HC := HC2; have HB := HB2; have U := U2
  clear HA2 HC2 HB2 U2
  have BA := YA
  clear YA
  have BB := YB
  clear YB
  have B0 := Y0
  clear Y0
  have B1 := Y1
  clear Y1
  have B2 := Y2
  clear Y2
  have B3 := Y3
  clear Y3
  have B4 := BN
  clear BN
  go_wp2_with fail
  clear za a0 a1 a2 zb b0 b1 b2
  generalize hW4 : w5.alloc (.cells #[.bool s4, .slice x4 n4 c4, .slice y4 m4 d4] 24) = v5 at *
  generalize w5.heap.size = z4 at *
  clear hW4
  refine (rMake_go (sb := false) HA.out.rx HA.out.lx HA.out.cx HA.out.nx HA.out.ry HA.out.ly HA.out.cy HA.out.ny (by omega) (by omega)).mono ?_
  rintro e w6 ⟨s5, x5, n5, c5, f5, y5, m5, d5, g5, er, rfl, hb, hq, ho⟩
  have U2 := hid ((U.out.add HB.out.size hb ho hq.rvq).later (below_alloc (Below.refl _ _) (.cells #[.bool s5, .slice x5 n5 c5, .slice y5 m5 d5] 24)))
  have hbb := below_alloc hb (.cells #[.bool s5, .slice x5 n5 c5, .slice y5 m5 d5] 24)
  have BN := hid (bx3_at w6 (.bool s5) (.slice x5 n5 c5) (.slice y5 m5 d5) 24)
  obtain ⟨za, a0, a1, a2⟩ := BA.out.below hb; obtain ⟨zb, b0, b1, b2⟩ := BB.out.below hb
  obtain ⟨_, p00, p01, p02⟩ := B0.out.below hb
  obtain ⟨_, p10, p11, p12⟩ := B1.out.below hb
  obtain ⟨_, p20, p21, p22⟩ := B2.out.below hb
  obtain ⟨_, p30, p31, p32⟩ := B3.out.below hb
  obtain ⟨_, p40, p41, p42⟩ := B4.out.below hb
  clear hq ho hb U
  have HA2 := hid (HA.out.below hbb); have HC2 := hid (HC.out.below hbb); have HB2 := hid (HB.out.trans (hbb.mono HB.out.size))
  have YA := hid (BA.out.below hbb)
  have YB := hid (BB.out.below hbb)
  have Y0 := hid (B0.out.below hbb)
  have Y1 := hid (B1.out.below hbb)
  have Y2 := hid (B2.out.below hbb)
  have Y3 := hid (B3.out.below hbb)
  have Y4 := hid (B4.out.below hbb)
  clear HA HC HB hbb BA BB B0 B1 B2 B3 B4
  have HA := HA2; have HC := HC2; have HB := HB2; have U := U2
  clear HA2 HC2 HB2 U2
  have BA := YA
  clear YA
  have BB := YB
  clear YB
  have B0 := Y0
  clear Y0
  have B1 := Y1
  clear Y1
  have B2 := Y2
  clear Y2
  have B3 := Y3
  clear Y3
  have B4 := Y4
  clear Y4
  have B5 := BN
  clear BN
  go_wp2_with fail
  clear za a0 a1 a2 zb b0 b1 b2
  generalize hW5 : w6.alloc (.cells #[.bool s5, .slice x5 n5 c5, .slice y5 m5 d5] 24) = v6 at *
  generalize w6.heap.size = z5 at *
  clear hW5
  obtain ⟨_, p00, p01, p02⟩ := B0.out
  obtain ⟨_, p10, p11, p12⟩ := B1.out
  obtain ⟨_, p20, p21, p22⟩ := B2.out
  obtain ⟨_, p30, p31, p32⟩ := B3.out
  obtain ⟨_, p40, p41, p42⟩ := B4.out
  obtain ⟨_, p50, p51, p52⟩ := B5.out
  have C5 : Hid (∀ W : World, Calls Tryz.prog 31 #[.int .i64 5] W fun e w' => ∃ s x n c f y m d g, e = .returned (.agg #[.bool s, .slice x n c, .slice y m d]) ∧ Below W.heap.size W w' ∧ Hid (Rn 4 w' s x n c f y m d g ((5 : Int) : Rat) ∧ Of2 W w' x n c f y m d g)) := fun W => (rOf_o (w := W) (z := 5) (by omega) (by omega)).mono (fun _ _ ⟨s, x, n, c, f, y, m, d, g, k1, k2, k3, k4⟩ => ⟨s, x, n, c, f, y, m, d, g, k1, k2, k3, k4⟩)
  have C0 : Hid (∀ W : World, Calls Tryz.prog 31 #[.int .i64 0] W fun e w' => ∃ s x n c f y m d g, e = .returned (.agg #[.bool s, .slice x n c, .slice y m d]) ∧ Below W.heap.size W w' ∧ Hid (Rn 4 w' s x n c f y m d g ((0 : Int) : Rat) ∧ Of2 W w' x n c f y m d g)) := fun W => (rOf_o (w := W) (z := 0) (by omega) (by omega)).mono (fun _ _ ⟨s, x, n, c, f, y, m, d, g, k1, k2, k3, k4⟩ => ⟨s, x, n, c, f, y, m, d, g, k1, k2, k3, k4⟩)
  clear BA BB B0 B1 B2 B3 B4 B5
  go_region_held3 (fun w' => w'.cell? ⟨z0, 0, none⟩ = some (.bool s0) ∧ w'.cell? ⟨z0, 1, none⟩ = some (.slice x0 n0 c0) ∧ w'.cell? ⟨z0, 2, none⟩ = some (.slice y0 m0 d0) ∧ w'.cell? ⟨z1, 0, none⟩ = some (.bool s1) ∧ w'.cell? ⟨z1, 1, none⟩ = some (.slice x1 n1 c1) ∧ w'.cell? ⟨z1, 2, none⟩ = some (.slice y1 m1 d1) ∧ w'.cell? ⟨z2, 0, none⟩ = some (.bool s2) ∧ w'.cell? ⟨z2, 1, none⟩ = some (.slice x2 n2 c2) ∧ w'.cell? ⟨z2, 2, none⟩ = some (.slice y2 m2 d2) ∧ w'.cell? ⟨z3, 0, none⟩ = some (.bool s3) ∧ w'.cell? ⟨z3, 1, none⟩ = some (.slice x3 n3 c3) ∧ w'.cell? ⟨z3, 2, none⟩ = some (.slice y3 m3 d3) ∧ w'.cell? ⟨z4, 0, none⟩ = some (.bool s4) ∧ w'.cell? ⟨z4, 1, none⟩ = some (.slice x4 n4 c4) ∧ w'.cell? ⟨z4, 2, none⟩ = some (.slice y4 m4 d4) ∧ w'.cell? ⟨z5, 0, none⟩ = some (.bool s5) ∧ w'.cell? ⟨z5, 1, none⟩ = some (.slice x5 n5 c5) ∧ w'.cell? ⟨z5, 2, none⟩ = some (.slice y5 m5 d5))
    (refine ⟨?_, ?_, ?_, ?_, ?_, ?_, ?_, ?_, ?_, ?_, ?_, ?_, ?_, ?_, ?_, ?_, ?_, ?_⟩ <;> repeat (with_reducible first | assumption | refine kCd ?_ | refine kCa ?_ | refine kCb (by assumption) ?_))
    (first
      | (go_at_call 31; with_reducible refine (C5.out _).mono ?_; rintro e w7 ⟨s6, x6, n6, c6, f6, y6, m6, d6, g6, rfl, hb7, H7⟩)
      | (go_at_call 31; with_reducible refine (C0.out _).mono ?_; rintro e w8 ⟨s7, x7, n7, c7, f7, y7, m7, d7, g7, rfl, hb8, H8⟩))
  have l7 : Below v6.heap.size v6 w7 := (by repeat (with_reducible first | assumption | exact Below.refl _ _ | refine Below.drew ?_ | refine kBa ?_ | refine kBb (by assumption) ?_))
  have l8 : Below w7.heap.size w7 w8 := (by repeat (with_reducible first | assumption | exact Below.refl _ _ | refine Below.drew ?_ | refine kBa ?_ | refine kBb (by assumption) ?_))
  have U7 := U.out.add HB.out.size l7 (show Of2 v6 w7 x6 n6 c6 f6 y6 m6 d6 g6 from H7.out.2) (H7.out.1.rvq (by omega))
  have B7 := HB.out.trans (l7.mono HB.out.size)
  have U8 := U7.add B7.size l8 (show Of2 w7 w8 x7 n7 c7 f7 y7 m7 d7 g7 from H8.out.2) (H8.out.1.rvq (by omega))
  have B8 := B7.trans (l8.mono B7.size)
  go_wp2
  go_ret
  exact ⟨_, _, _, rfl, ansR8 B8 U8⟩
end Go.Proofs.YtlpmfmphglgocaaGreatDoor

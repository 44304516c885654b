/-
  Walks of the document's reference for rat: To, DocMake of short numbers; the statements' own num. Walks of the statements' own num, and of package rat's calls Make and Floor. The walk of package rat's call Floor. Walks of package rat's clone, Copy and Neg. The walk of rat.Copy, with the owners of what it answers. The walks of package rat's add and mul, with the owners of what they answer (written by makers/ow.py). The walks of package rat's Add, Sub, Mul and Quo, with the owners of what they answer (written by makers/ow.py). The walk of the document's reference for nat: bit, Bits, DivMod. Walks of nat.Shl and of the document's reference: Shl, DocShl. The walk of the document's reference for nat: half, Gcd. The walk of the document's reference for nat: Gcd. Walks of the document's reference for nat: DocMul, DocDivMod, DocGcd. Walks of the document's Same and Light of rational numbers, and of the statements' own light. Walks of the document's reference for whole: Neg, Add, Sub, Mul, Sign, Cmp. Walks of the document's reference for whole: Sub, Sign, Cmp, two, DocNeg, DocCmp. Walks of the document's reference for whole: DocNeg, DocCmp, Doc. Walks of the document's reference for rat: Form. Walks of the document's reference for rat: Mk, whatever the numbers' lengths. Walks of the document's reference for rat: From, Neg, Sign, Add. Walks of the document's reference for whole: Divide. The walk of package rat's call Cmp. Walks of the document's reference for rat: Add, Sub, Cmp. Walks of rat's Sign and Cmp, whatever they are handed, and of the document's: DocSign, DocCmp. Walks of the document's reference for rat: Mul, Quo, Int, To, DocOf, DocNeg. Walks of rat's calls where they tell that a number is not in form, and of the document's Doc, DocNeg there; DocNeg. Walks of the document's reference for rat: Int, DocOf. The walk of the document's reference for rat: Doc, of numbers in form. Walks of rat's Add, Sub, Mul, Quo, whatever they are handed, and of the statements' call. The walk of rat.Of.
-/
import Derived.Test.YtlpmfmphglgocaaGreatDoorZ4
import Derived.Test.YtlpmfmphglgocaaGreatDoorZ1
import Derived.Test.YtlpmfmphglgocaaGreatDoorZ2
import Derived.Test.YtlpmfmphglgocaaGreatDoorZ3
namespace Go.Proofs.YtlpmfmphglgocaaGreatDoor
open Go.RowKit

theorem Tg.set {w x} (h : Tg w x) (p : Addr) (u : Value) : Tg (w.setCell p u) x := fun a ha => by
  obtain ⟨arr, fr, hh⟩ := h a ha
  by_cases e : a.block = p.block
  · refine ⟨if p.spot.isSome then arr else arr.setIfInBounds p.off u, fr, ?_⟩
    rw [e] at hh ⊢
    simp [World.setCell, Array.getElem?_modify, hh]
  · exact ⟨arr, fr, (Below.heap_setCell w p u a.block e).trans hh⟩
theorem Tg.alloc {w x} (h : Tg w x) (o : Obj) : Tg (w.alloc o) x := h.below (below_alloc (Below.refl _ _) o)
theorem own_wn {w base x n c f} {V : Nat} (h : Own .u64 28 w base (.slice x n c) n f) (hl : Lm f n) (hf : Fm f n) (hv : vf f n = V) : Wn w false x n c f (V : Int) := by
  obtain ⟨h1, h2, h3, h4, _⟩ := h.slice
  exact ⟨h4, hl, (wfB_iff _ _ _).2 ⟨hf, fun h => by cases h⟩, ⟨h1, h2⟩, h3, hv⟩
theorem toWn_c {w x n c d} {V : Nat} (h : Dn w x n d V) (hn : n ≤ 1048576) :
    Calls Tryz.prog 84 #[.slice x n c] w fun e w' => ∃ z k c' f, e = .returned (.slice z k c') ∧ Below w.heap.size w w' ∧ Hid (k ≤ n ∧ Wn w' false z k c' f (V : Int) ∧ Tg w' z) :=
  (toOwn_c x n c d w hn h.rd h.dg h.fm).mono (fun _ _ ⟨z, k, c', f, h1, h2, h3, _, h4, h5, h6, h7⟩ => ⟨z, k, c', f, h1, h3, h4, own_wn h2 h5 h6 (h7.trans h.val), h2.tg⟩)
set_option maxRecDepth 100000 in
set_option maxHeartbeats 4000000 in
theorem qTo_c {w : World} {r : Bool} {x n c d y m e g} {A B : Nat} (ha : Dn w x n d A) (hb : Dn w y m g B) (hn : n ≤ 131072) (hm : m ≤ 131072) :
    Calls Tryz.prog 75 #[.agg #[.bool r, .slice x n c, .slice y m e]] w fun en w' => ∃ z k c' f z2 k2 c2 f2, en = .returned (.agg #[.bool r, .slice z k c', .slice z2 k2 c2]) ∧ Below w.heap.size w w' ∧ k ≤ n ∧ k2 ≤ m ∧ Wn w' false z k c' f (A : Int) ∧ Wn w' false z2 k2 c2 f2 (B : Int) ∧ Tg w' z ∧ Tg w' z2 := by
  have h1 := (ha.alloc (.cells #[.bool r, .slice x n c, .slice y m e] 71)).alloc (.cells #[.bool false, .slice none 0 0, .slice none 0 0] 24)
  have h2 := (hb.alloc (.cells #[.bool r, .slice x n c, .slice y m e] 71)).alloc (.cells #[.bool false, .slice none 0 0, .slice none 0 0] 24)
  have h3 := ob_new (w.alloc (.cells #[.bool r, .slice x n c, .slice y m e] 71)) 24
  rw [size_alloc1] at h3
  have h4 := below_alloc (below_alloc (Below.refl w.heap.size w) (.cells #[.bool r, .slice x n c, .slice y m e] 71)) (.cells #[.bool false, .slice none 0 0, .slice none 0 0] 24)
  have h5 := (bx3_at w (.bool r) (.slice x n c) (.slice y m e) 71).alloc (.cells #[.bool false, .slice none 0 0, .slice none 0 0] 24)
  clear ha hb
  go_enter Tryz.func75, Tryz.ntmps75
  go_wp2_with fail
  generalize (w.alloc (.cells #[.bool r, .slice x n c, .slice y m e] 71)).alloc (.cells #[.bool false, .slice none 0 0, .slice none 0 0] 24) = w1 at *
  have HA := hid h1; have HB := hid h2; have OB := h3; have HW := hid h4
  obtain ⟨hz, z0, z1, z2, zf⟩ := h3
  obtain ⟨hy, x0, x1, x2⟩ := h5
  clear h1 h2 h4
  have C1 : Hid (∀ W, Below w1.heap.size w1 W → Calls Tryz.prog 84 #[.slice x n c] W fun e w' => ∃ z k c' f, e = .returned (.slice z k c') ∧ Below W.heap.size W w' ∧ Hid (k ≤ n ∧ Wn w' false z k c' f (A : Int) ∧ Tg w' z)) := fun W hW => toWn_c (HA.out.below hW) (by omega)
  have C2 : Hid (∀ W, Below w1.heap.size w1 W → Calls Tryz.prog 84 #[.slice y m e] W fun e w' => ∃ z k c' f, e = .returned (.slice z k c') ∧ Below W.heap.size W w' ∧ Hid (k ≤ m ∧ Wn w' false z k c' f (B : Int) ∧ Tg w' z)) := fun W hW => toWn_c (HB.out.below hW) (by omega)
  go_region_held3 (fun w' => w'.cell? ⟨w.heap.size, 0, none⟩ = some (.bool r) ∧ w'.cell? ⟨w.heap.size, 1, none⟩ = some (.slice x n c) ∧ w'.cell? ⟨w.heap.size, 2, none⟩ = some (.slice y m e) ∧ (w'.cell? ⟨w.heap.size + 1, 0, none⟩).isSome = true ∧ (w'.cell? ⟨w.heap.size + 1, 1, none⟩).isSome = true ∧ (w'.cell? ⟨w.heap.size + 1, 2, none⟩).isSome = true ∧ w'.frozen? ⟨w.heap.size + 1, 0, none⟩ = false ∧ w'.frozen? ⟨w.heap.size + 1, 1, none⟩ = false ∧ w'.frozen? ⟨w.heap.size + 1, 2, none⟩ = false)
    (refine ⟨?_, ?_, ?_, ?_, ?_, ?_, ?_, ?_, ?_⟩ <;> repeat (with_reducible first | assumption | exact zf _ | exact kI0 z0 | exact kI0 z1 | exact kI0 z2 | exact tf _ | exact kI0 t0 | exact kI0 t1 | exact kI0 t2 | exact uf _ | exact kI0 u0 | exact kI0 u1 | exact kI0 u2 | refine kCd ?_ | refine kId ?_ | refine kFd ?_ | refine kCs (by simp only [ne_eq]; omega) ?_ | refine kIs ?_ | refine kFs ?_ | refine kCb (by assumption) ?_ | refine kIb (by assumption) ?_))
    (first
      | (go_at_call 84; with_reducible refine (C1.out _ (by repeat (with_reducible first | assumption | exact Below.refl _ _ | refine Below.drew ?_ | refine kBa ?_ | refine kBb (by assumption) ?_))).mono ?_; rintro e w5 ⟨za, ka, ca, fa, rfl, hb5, HP⟩; have TU : Ob w5 (w.heap.size + 1) := (by repeat (with_reducible first | exact OB | exact hO2 | exact TU | exact TV | exact TW | exact TX | exact TY | refine Ob.drew ?_ | refine kOb (by assumption) ?_)); obtain ⟨_, t0, t1, t2, tf⟩ := id TU)
      | (go_at_call 84; with_reducible refine (C2.out _ (by repeat (with_reducible first | assumption | exact Below.refl _ _ | refine Below.drew ?_ | refine kBa ?_ | refine kBb (by assumption) ?_))).mono ?_; rintro e w6 ⟨zb, kb, cb, fb, rfl, hb6, HQ⟩; have TV : Ob w6 (w.heap.size + 1) := (by repeat (with_reducible first | exact OB | exact hO2 | exact TU | exact TV | exact TW | exact TX | exact TY | refine Ob.drew ?_ | refine kOb (by assumption) ?_)); obtain ⟨_, u0, u1, u2, uf⟩ := id TV))
  have WA : Wn w6 false za ka ca fa (A : Int) := HP.out.2.1.below hb6
  have hb : Below w1.heap.size w1 w6 := (by repeat (with_reducible first | assumption | exact Below.refl _ _ | refine Below.drew ?_ | refine kBa ?_ | refine kBb (by assumption) ?_))
  go_wp2
  exact bodyPost_ret (v := .agg #[.bool r, .slice za ka ca, .slice zb kb cb]) (by simp [results, Tryz.results75, go_sem, u0, u1, u2]) rfl ⟨za, ka, ca, fa, zb, kb, cb, fb, rfl, below_st (HW.out.trans (hb.mono HW.out.size)) (by omega), HP.out.1, HQ.out.1, TV.wn WA, TV.wn HQ.out.2.1, ((((HP.out.2.2.below hb6).set _ _).set _ _).set _ _), (((HQ.out.2.2.set _ _).set _ _).set _ _)⟩

end Go.Proofs.YtlpmfmphglgocaaGreatDoor
namespace Go.Proofs.YtlpmfmphglgocaaGreatDoor
open Go.RowKit

end Go.Proofs.YtlpmfmphglgocaaGreatDoor
namespace Go.Proofs.YtlpmfmphglgocaaGreatDoor
open Go.RowKit

theorem kM0 {w : World} {g : Nat} {x y : Value} {t : TypeId} (h : g = w.heap.size) : (w.alloc (.cells #[x, y] t)).cell? ⟨g, 0, none⟩ = some x := by subst h; exact kN0
theorem kM1 {w : World} {g : Nat} {x y : Value} {t : TypeId} (h : g = w.heap.size) : (w.alloc (.cells #[x, y] t)).cell? ⟨g, 1, none⟩ = some y := by subst h; exact kN1
theorem kCe {w : World} {a : Addr} {v : Value} (h : (w.cell? a).isSome = true) : (w.setCell a v).cell? a = some v := World.cell?_setCell_same' w a v h
theorem kCo {w : World} {b i j : Nat} {u v : Value} (hij : i ≠ j) (h : w.cell? ⟨b, j, none⟩ = some u) : (w.setCell ⟨b, i, none⟩ v).cell? ⟨b, j, none⟩ = some u := by
  rw [World.cell?_setCell_other _ _ _ _ (fun he => hij (congrArg Addr.off he))]; exact h
/-- What stands behind the quotient. -/
structure FlAt (L : Nat) (w1 wx : World) (b4 : Nat) (s : Bool) (z : Option Addr) (k c : Nat) (v : Int) : Prop where
  bx : Bx wx b4 s z k c
  bel : Below w1.heap.size w1 wx
  wn : ∃ f, Wn wx s z k c f v
  le : k ≤ L + 2
end Go.Proofs.YtlpmfmphglgocaaGreatDoor
namespace Go.Proofs.YtlpmfmphglgocaaGreatDoor
open Go.RowKit

set_option maxRecDepth 100000 in
set_option maxHeartbeats 400000 in
theorem rclone_c (ao : Option Addr) (n cap : Nat) (f : Nat → Int) (w : World) (hn : n ≤ 1048576) (hr : Rd .u64 w ao n f) (hnil : ao = none → n = 0 ∧ cap = 0) :
    Calls Tryz.prog 101 #[.slice ao n cap] w fun e w' => ∃ ao' cap', e = .returned (.slice ao' n cap') ∧ Below w.heap.size w w' ∧ Own .u64 28 w' w.heap.size (.slice ao' n cap') n f := by
  cases ao with
  | none =>
    obtain ⟨rfl, rfl⟩ := hnil rfl
    go_enter Tryz.func101, Tryz.ntmps101
    obtain ⟨i0, hi, hz0, hz1, hz2⟩ := info_parts Tryz.infoU64
    go_wp2_with (at_builtin; refine wpList_append_own_none rfl (.const (.slice none 0 0)) (.tmp 3) 22 rfl w.heap.size 28 i0 1 Tryz.underlying22 hi (.slice none 0 0) 0 [] rfl (World.ownsRow_nil _ _ _ _) rfl ?_)
    go_ret
    exact ⟨none, 0, rfl, Below.refl _ _, own_nil _ _ _ _ _⟩
  | some ad =>
    clear hnil
    have HR := hid hr
    clear hr
    go_enter Tryz.func101, Tryz.ntmps101
    obtain ⟨i0, hi, hz0, hz1, hz2⟩ := info_parts Tryz.infoU64
    go_wp2_with (at_builtin; refine wpList_append_own w rfl (.const (.slice none 0 0)) (.tmp 3) 22 rfl w.heap.size 28 i0 (.int .u64 0) 1 8 Tryz.underlying22 hi hz0 hz1 hz2 rfl (by decide) (.slice none 0 0) 0 [] rfl (World.ownsRow_nil _ _ _ _) ad n cap (lst .u64 f n) rfl (by rw [lst_length, Nat.mul_one]) ?c1 (lst_one _ _ _) ?c2 ?c3 (Nat.le_refl _) ?_)
    case c1 =>
      intro j u hu
      obtain ⟨hj, rfl⟩ := lst_getE hu
      obtain ⟨b, o, e, hc⟩ := HR.out j hj
      cases e
      rw [addr_add]; exact hc
    case c2 => unfold maxLen; omega
    case c3 => omega
    intro v' w' hown hgr _
    have hown' : Own .u64 28 w' w.heap.size v' n f := hown
    have hbel : Below w.heap.size w w' := (Below.refl _ _).grown hgr (Nat.le_refl _) (fun k h => by simp [Value.ownBlock] at h)
    obtain ⟨ao', cap', hv, hcc, hnn, hml, hrd, hlt⟩ := hown'.shape
    rw [hv] at hown' ⊢
    clear hown hgr hv
    have HO := hid hown'
    clear hown'
    go_wp2
    go_ret
    exact ⟨ao', cap', rfl, hbel, HO.out⟩
theorem cloneWn_c {w s x n c f v} (h : Wn w s x n c f v) (hn : n ≤ 1048576) :
    Calls Tryz.prog 101 #[.slice x n c] w fun e w' => ∃ z c', e = .returned (.slice z n c') ∧ Below w.heap.size w w' ∧ Hid (Wn w' s z n c' f v) :=
  (rclone_c x n c f w (by omega) h.rd h.nil).mono (fun _ _ ⟨z, c', h1, h2, h3⟩ => ⟨z, c', h1, h2, h3.slice.2.2.2.1, h.lm, h.wf, ⟨h3.slice.1, h3.slice.2.1⟩, h3.slice.2.2.1, h.val⟩)

set_option maxRecDepth 100000 in
set_option maxHeartbeats 4000000 in
theorem rCopy_n {L : Nat} {w : World} {sa : Bool} {xa : Option Addr} {na ca : Nat} {fa : Nat → Int} {ya : Option Addr} {ma da : Nat} {ga : Nat → Int} {a : Rat} (ha : Rn L w sa xa na ca fa ya ma da ga a) (hL : L ≤ 200000) :
    Calls Tryz.prog 69 #[.agg #[.bool sa, .slice xa na ca, .slice ya ma da]] w fun e w' => ∃ x c y d, e = .returned (.agg #[.bool sa, .slice x na c, .slice y ma d]) ∧ Below w.heap.size w w' ∧ Rn L w' sa x na c fa y ma d ga a := by
  have b1 := ha.ln; have b2 := ha.ld
  have h1 := (ha.alloc (.cells #[.bool sa, .slice xa na ca, .slice ya ma da] 24)).alloc (.cells #[.bool false, .slice none 0 0, .slice none 0 0] 24)
  have h3 := ob_new (w.alloc (.cells #[.bool sa, .slice xa na ca, .slice ya ma da] 24)) 24
  rw [size_alloc1] at h3
  have h4 := below_alloc (below_alloc (Below.refl w.heap.size w) (.cells #[.bool sa, .slice xa na ca, .slice ya ma da] 24)) (.cells #[.bool false, .slice none 0 0, .slice none 0 0] 24)
  have h5 := (bx3_at w (.bool sa) (.slice xa na ca) (.slice ya ma da) 24).alloc (.cells #[.bool false, .slice none 0 0, .slice none 0 0] 24)
  clear ha
  go_enter Tryz.func69, Tryz.ntmps69
  go_wp2_with fail
  generalize (w.alloc (.cells #[.bool sa, .slice xa na ca, .slice ya ma da] 24)).alloc (.cells #[.bool false, .slice none 0 0, .slice none 0 0] 24) = w1 at *
  have HA := hid h1; have OB := h3; have HW := hid h4
  obtain ⟨hz, z0, z1, z2, zf⟩ := h3
  obtain ⟨hy, x0, x1, x2⟩ := h5
  clear h1 h4
  have C1 : Hid (∀ W, Below w1.heap.size w1 W → Calls Tryz.prog 101 #[.slice xa na ca] W fun e w' => ∃ z c', e = .returned (.slice z na c') ∧ Below W.heap.size W w' ∧ Hid (Wn w' sa z na c' fa a.num)) := fun W hW => cloneWn_c (HA.out.num.below hW) (by omega)
  have C2 : Hid (∀ W, Below w1.heap.size w1 W → Calls Tryz.prog 101 #[.slice ya ma da] W fun e w' => ∃ z c', e = .returned (.slice z ma c') ∧ Below W.heap.size W w' ∧ Hid (Wn w' false z ma c' ga (a.den : Int))) := fun W hW => cloneWn_c (HA.out.den.below hW) (by omega)
  go_region_held3 (fun w' => w'.cell? ⟨w.heap.size, 0, none⟩ = some (.bool sa) ∧ w'.cell? ⟨w.heap.size, 1, none⟩ = some (.slice xa na ca) ∧ w'.cell? ⟨w.heap.size, 2, none⟩ = some (.slice ya ma da) ∧ (w'.cell? ⟨w.heap.size + 1, 0, none⟩).isSome = true ∧ (w'.cell? ⟨w.heap.size + 1, 1, none⟩).isSome = true ∧ (w'.cell? ⟨w.heap.size + 1, 2, none⟩).isSome = true ∧ w'.frozen? ⟨w.heap.size + 1, 0, none⟩ = false ∧ w'.frozen? ⟨w.heap.size + 1, 1, none⟩ = false ∧ w'.frozen? ⟨w.heap.size + 1, 2, none⟩ = false)
    (refine ⟨?_, ?_, ?_, ?_, ?_, ?_, ?_, ?_, ?_⟩ <;> repeat (with_reducible first | assumption | exact zf _ | exact kI0 z0 | exact kI0 z1 | exact kI0 z2 | exact tf _ | exact kI0 t0 | exact kI0 t1 | exact kI0 t2 | exact uf _ | exact kI0 u0 | exact kI0 u1 | exact kI0 u2 | refine kCd ?_ | refine kId ?_ | refine kFd ?_ | refine kCs (by simp only [ne_eq]; omega) ?_ | refine kIs ?_ | refine kFs ?_ | refine kCb (by assumption) ?_ | refine kIb (by assumption) ?_))
    (first
      | (go_at_call 101; with_reducible refine (C1.out _ (by repeat (with_reducible first | assumption | exact Below.refl _ _ | refine Below.drew ?_ | refine kBa ?_ | refine kBb (by assumption) ?_))).mono ?_; rintro e w5 ⟨zp, cp, rfl, hb5, HP⟩; have TU : Ob w5 (w.heap.size + 1) := (by repeat (with_reducible first | exact OB | exact TU | exact TV | refine Ob.drew ?_ | refine kOb (by assumption) ?_)); obtain ⟨_, t0, t1, t2, tf⟩ := id TU)
      | (go_at_call 101; with_reducible refine (C2.out _ (by repeat (with_reducible first | assumption | exact Below.refl _ _ | refine Below.drew ?_ | refine kBa ?_ | refine kBb (by assumption) ?_))).mono ?_; rintro e w6 ⟨zq, cq, rfl, hb6, HQ⟩; have TV : Ob w6 (w.heap.size + 1) := (by repeat (with_reducible first | exact OB | exact TU | exact TV | refine Ob.drew ?_ | refine kOb (by assumption) ?_)); obtain ⟨_, u0, u1, u2, uf⟩ := id TV))
  have WA := HP.out.below hb6
  have hb : Below w1.heap.size w1 w6 := (by repeat (with_reducible first | assumption | exact Below.refl _ _ | refine Below.drew ?_ | refine kBa ?_ | refine kBb (by assumption) ?_))
  go_wp2
  exact bodyPost_ret (v := .agg #[.bool sa, .slice zp na cp, .slice zq ma cq]) (by simp [results, Tryz.results69, go_sem, u0, u1, u2]) rfl ⟨zp, cp, zq, cq, rfl, below_st (HW.out.trans (hb.mono HW.out.size)) (by omega), TV.wn WA, TV.wn HQ.out, b1, b2⟩

end Go.Proofs.YtlpmfmphglgocaaGreatDoor
namespace Go.Proofs.YtlpmfmphglgocaaGreatDoor
open Go.RowKit

/-- Three stores into a box leave a list of a call's own. -/
theorem own_st3 {w : World} {B base : Nat} {u0 u1 u2 : Value} {x : Option Addr} {n c : Nat} {f : Nat → Int} (h : Own .u64 28 w base (.slice x n c) n f) (hB : B < base) : Own .u64 28 (((w.setCell ⟨B, 0, none⟩ u0).setCell ⟨B, 1, none⟩ u1).setCell ⟨B, 2, none⟩ u2) base (.slice x n c) n f :=
  h.of (fun a ha => by
    have hne : a.block ≠ B := by have := (h.slice.2.2.2.2 a ha).1; omega
    rw [Below.heap_setCell _ _ _ _ hne, Below.heap_setCell _ _ _ _ hne, Below.heap_setCell _ _ _ _ hne])
end Go.Proofs.YtlpmfmphglgocaaGreatDoor
namespace Go.Proofs.YtlpmfmphglgocaaGreatDoor
open Go.RowKit

def RatAnsO (L : Nat) (w w' : World) (e : Ending) (q : Rat) : Prop := ∃ s x n c f y m d g, e = .returned (.agg #[.bool s, .slice x n c, .slice y m d]) ∧ Below w.heap.size w w' ∧ Rn L w' s x n c f y m d g q ∧ Own .u64 28 w' w.heap.size (.slice x n c) n f ∧ Own .u64 28 w' w.heap.size (.slice y m d) m g ∧ Apart x y
def RatTupO (L : Nat) (w w' : World) (e : Ending) (q : Rat) : Prop := ∃ s x n c f y m d g, e = .returned (.tuple #[.agg #[.bool s, .slice x n c, .slice y m d], .int .i64 0]) ∧ Below w.heap.size w w' ∧ Rn L w' s x n c f y m d g q ∧ Own .u64 28 w' w.heap.size (.slice x n c) n f ∧ Own .u64 28 w' w.heap.size (.slice y m d) m g ∧ Apart x y
/-- What a call lays lies apart from what lay before. -/
theorem own_ap {w W : World} {b B n m c d : Nat} {x y : Option Addr} {f g : Nat → Int} (h1 : Own .u64 28 w b (.slice x n c) n f) (h2 : Own .u64 28 W B (.slice y m d) m g) (hB : w.heap.size ≤ B) : Apart x y := fun p q hp hq => by
  have e1 := (h1.slice.2.2.2.2 p hp).2
  have e2 := (h2.slice.2.2.2.2 q hq).1
  omega
theorem own_und {w : World} {b n c : Nat} {x : Option Addr} {f : Nat → Int} (h : Own .u64 28 w b (.slice x n c) n f) : Und x w.heap.size := fun p hp => (h.slice.2.2.2.2 p hp).2
theorem add_o {w : World} {s t x y n m c d f g u v} (ha : Wn w s x n c f u) (hb : Wn w t y m d g v) (hn : n ≤ 1048576) (hm : m ≤ 1048576) :
    Calls Tryz.prog 88 #[.agg #[.bool s, .slice x n c], .agg #[.bool t, .slice y m d]] w fun e w' => ∃ r z k e' h, e = .returned (.tuple #[.agg #[.bool r, .slice z k e'], .int .i64 0]) ∧ Below w.heap.size w w' ∧ k ≤ max n m + 1 ∧ Wn w' r z k e' h (u + v) ∧ Own .u64 28 w' w.heap.size (.slice z k e') k h := by
  refine (wAdd_c s t x y n m c d f g w (by omega) (by omega) ha.rd hb.rd ha.lm hb.lm).mono ?_
  rintro e w' ⟨r, z, k, e', h, er, rfl, hres, hans⟩
  obtain ⟨rfl, hv⟩ := hans.ok ⟨ha.wf, hb.wf⟩
  exact ⟨r, z, k, e', h, rfl, hres.res.bel, hres.res.le, hres.wn (by rw [hv, ha.val, hb.val]), hres.res.own⟩
theorem natMul_o {w : World} {x n c f y m d g} {A B : Nat} (ha : Wn w false x n c f A) (hb : Wn w false y m d g B) (hn : n ≤ 1048576) (hm : m ≤ 1048576) :
    Calls Tryz.prog 89 #[.slice x n c, .slice y m d] w fun e w' => ∃ z k e' h, e = .returned (.tuple #[.slice z k e', .int .i64 0]) ∧ Below w.heap.size w w' ∧ k ≤ n + m ∧ Wn w' false z k e' h (A * B : Nat) ∧ Own .u64 28 w' w.heap.size (.slice z k e') k h := by
  refine (Mul_c x y n m c d f g w (by omega) (by omega) ha.cap.1 hb.cap.1 ha.cap.2 hb.cap.2 ha.rd hb.rd ha.lm hb.lm).mono ?_
  rintro e w' ⟨z, k, e', h, er, rfl, hres, hv⟩
  have hr := hres.ans (by omega)
  rcases hv with ⟨_, _, rfl, hv⟩ | ⟨h1, _⟩
  · refine ⟨z, k, e', h, rfl, hr.bel, hr.le, ⟨hr.rd, hr.lm, (wfB_iff _ _ _).2 ⟨hr.fm, fun h => by cases h⟩, hr.ncap, hr.nil', ?_⟩, hr.own⟩
    show vf h k = _
    rw [hv, ha.nv, hb.nv]; simp
  · exact absurd ⟨ha.fm, hb.fm⟩ h1
theorem div_o {w : World} {x n c f y m d g} {A B : Nat} (ha : Wn w false x n c f A) (hb : Wn w false y m d g B) (h0 : 0 < B) (hn : n ≤ 1048576) (hm : m ≤ 1048576) :
    Calls Tryz.prog 51 #[.slice x n c, .slice y m d] w fun e w' => ∃ z k e' h z2 k2 e2, e = .returned (.tuple #[.slice z k e', .slice z2 k2 e2, .int .i64 0]) ∧ Below w.heap.size w w' ∧ k ≤ n ∧ Wn w' false z k e' h (A / B : Nat) ∧ Own .u64 28 w' w.heap.size (.slice z k e') k h := by
  refine (DivMod_c x y n m c d f g w (by omega) (by omega) ha.rd hb.rd ha.lm hb.lm).mono ?_
  rintro e w' ⟨z, k, e', h, z2, k2, e2, r, er, rfl, hres, _, hv⟩
  have hr := hres.ans (by omega)
  have hmp := hb.pos (by omega)
  rcases hv with ⟨_, _, _, rfl, hv, h1, h2⟩ | ⟨_, _, h1, _⟩ | ⟨h1, _⟩
  · refine ⟨z, k, e', h, z2, k2, e2, rfl, hr.bel, hr.le, ⟨hr.rd, hr.lm, (wfB_iff _ _ _).2 ⟨hr.fm, fun h => by cases h⟩, hr.ncap, hr.nil', ?_⟩, hr.own⟩
    show vf h k = _
    rw [ha.nv, hb.nv] at hv
    rw [hb.nv] at h2
    have hq := vf_nonneg hr.lm
    obtain ⟨Q, hQ⟩ := Int.eq_ofNat_of_zero_le hq
    obtain ⟨R, hR⟩ := Int.eq_ofNat_of_zero_le h1
    rw [hQ, hR] at hv
    rw [hR] at h2
    rw [hQ]
    have h3 : A = Q * B + R := by exact_mod_cast hv
    have h4 : R < B := by exact_mod_cast h2
    have : A / B = Q := by rw [h3, Nat.mul_comm, Nat.mul_add_div h0, Nat.div_eq_of_lt h4]; rfl
    rw [this]
  · omega
  · exact absurd ⟨ha.fm, hb.fm⟩ h1
set_option maxHeartbeats 800000 in
theorem over_o {w : World} {x n c f y m d g} {A B : Nat} (ha : Wn w false x n c f A) (hb : Wn w false y m d g B) (h0 : 0 < B) (hn : n ≤ 1048576) (hm : m ≤ 1048576) {base : Nat} (ho : Own .u64 28 w base (.slice x n c) n f) (hbs : base ≤ w.heap.size) :
    Calls Tryz.prog 86 #[.slice x n c, .slice y m d] w fun e w' => ∃ z k e' h, e = .returned (.slice z k e') ∧ Below w.heap.size w w' ∧ Hid (k ≤ n ∧ Wn w' false z k e' h (A / B : Nat) ∧ Own .u64 28 w' base (.slice z k e') k h ∧ ∀ q, Und q w.heap.size → Apart x q → Apart z q) := by
  have C2 := hid (isOne_c hb); have C3 := hid (div_o ha hb h0 hn hm); have HA := hid ha; have HO := hid ho
  clear ho
  by_cases h2 : B = 1
  · have e1 : decide ((B : Int) = 1) = true := by simp [h2]
    have e2 : A / B = A := by rw [h2]; simp
    rw [e2]
    rw [e1] at C2
    clear ha hb e1 e2 C3 h0 h2
    go_enter Tryz.func86, Tryz.ntmps86
    go_wp2_with fail
    refine C2.out.mono ?_
    rintro e w1 ⟨rfl, rfl⟩
    go_wp2
    go_ret
    exact ⟨x, n, c, f, rfl, Below.refl _ _, Nat.le_refl _, HA.out, HO.out, fun _ _ hq => hq⟩
  · have e1 : decide ((B : Int) = 1) = false := by simp; omega
    rw [e1] at C2
    clear ha hb e1 h0 h2
    go_enter Tryz.func86, Tryz.ntmps86
    go_wp2_with fail
    refine C2.out.mono ?_
    rintro e w1 ⟨rfl, rfl⟩
    go_wp2_with fail
    refine C3.out.mono ?_
    rintro e w2 ⟨z, k, e', h, z2, k2, e2, rfl, h1, h2, h3, h4⟩
    have H2 := hid (And.intro h2 (And.intro h3 (And.intro (h4.base hbs) (fun (q : Option Addr) (hq : Und q w1.heap.size) (_ : Apart x q) => show Apart z q from fun p r hp hr => by have e1 := (h4.slice.2.2.2.2 p hp).1; have e2 := hq r hr; omega))))
    clear h2 h3 h4
    go_wp2
    go_ret
    exact ⟨z, k, e', h, rfl, h1, H2.out⟩
set_option maxRecDepth 100000 in
set_option maxHeartbeats 4000000 in
theorem ratadd_o {L : Nat} {w : World} {sa : Bool} {xa : Option Addr} {na ca : Nat} {fa : Nat → Int} {ya : Option Addr} {ma da : Nat} {ga : Nat → Int} {a : Rat} {sb : Bool} {xb : Option Addr} {nb cb : Nat} {fb : Nat → Int} {yb : Option Addr} {mb db : Nat} {gb : Nat → Int} {b : Rat} (ha : Rn L w sa xa na ca fa ya ma da ga a) (hb : Rn L w sb xb nb cb fb yb mb db gb b) (hL : L ≤ 200000) :
    Calls Tryz.prog 55 #[.agg #[.bool sa, .slice xa na ca, .slice ya ma da], .agg #[.bool sb, .slice xb nb cb, .slice yb mb db]] w fun e w' => RatAnsO (2 * L + 1) w w' e (a + b) := by
  have HA0 := hid ha; have HB0 := hid hb
  have b1 := ha.ln; have b2 := ha.ld; have b3 := hb.ln; have b4 := hb.ld
  clear ha hb
  go_enter Tryz.func55, Tryz.ntmps55
  go_wp2_with fail
  refine (ratGcd_c (((HA0.out.den.alloc _).alloc _).alloc _) (((HB0.out.den.alloc _).alloc _).alloc _) (by omega) (by omega)).mono ?_
  rintro e w1 ⟨zg, kg, cg, fg, rfl, hbel, hg⟩
  obtain ⟨⟨hz, x0, x1, x2, y0, y1, y2, z0, z1, z2, zf⟩, hw⟩ := three_new hbel
  have T1 : Hid (Three w.heap.size w1 _ _ _ _ _ _ _ _ _) := ⟨hz, x0, x1, x2, y0, y1, y2, z0, z1, z2, zf⟩
  have HW1 := hid hw; have WG1 := hid hg; have HA1 := hid (HA0.out.below hw); have HB1 := hid (HB0.out.below hw)
  have hG0 : 0 < a.den.gcd b.den := Nat.gcd_pos_of_pos_left _ a.den_pos
  have hkg : kg ≤ L := Nat.le_trans (hg.len_le HA1.out.den (Nat.gcd_le_left _ a.den_pos)) (by omega)
  clear hbel hw hg HA0 HB0
  have C1 : Hid ((∀ W, Below w1.heap.size w1 W → Calls Tryz.prog 86 #[.slice ya ma da, .slice zg kg cg] W fun e w' => ∃ z k e' h, e = .returned (.slice z k e') ∧ Below W.heap.size W w' ∧ Hid (k ≤ L ∧ Wn w' false z k e' h (a.den / a.den.gcd b.den : Nat)))) := fun W hW => (over_c (HA1.out.den.below hW) (WG1.out.below hW) hG0 (by omega) (by omega)).mono (fun e w' ⟨z, k, e', h, h1, h2, h3⟩ => ⟨z, k, e', h, h1, h2, by have := h3.out.1; omega, h3.out.2⟩)
  have C2 : Hid ((∀ W, Below w1.heap.size w1 W → Calls Tryz.prog 86 #[.slice yb mb db, .slice zg kg cg] W fun e w' => ∃ z k e' h, e = .returned (.slice z k e') ∧ Below W.heap.size W w' ∧ Hid (k ≤ L ∧ Wn w' false z k e' h (b.den / a.den.gcd b.den : Nat)))) := fun W hW => (over_c (HB1.out.den.below hW) (WG1.out.below hW) hG0 (by omega) (by omega)).mono (fun e w' ⟨z, k, e', h, h1, h2, h3⟩ => ⟨z, k, e', h, h1, h2, by have := h3.out.1; omega, h3.out.2⟩)
  go_wp2_with fail
  go_region_held3 (fun w' => w'.cell? ⟨w.heap.size, 2, none⟩ = some (.slice ya ma da) ∧ w'.cell? ⟨w.heap.size + 1, 2, none⟩ = some (.slice yb mb db))
    (refine ⟨?_, ?_⟩ <;> repeat (with_reducible first | assumption | refine kCd ?_ | refine kCa ?_ | refine kCb (by assumption) ?_))
    (first
      | (go_at_call 86; with_reducible refine (C1.out _ (by repeat (with_reducible first | assumption | exact Below.refl _ _ | refine Below.drew ?_ | refine kBa ?_ | refine kBb (by assumption) ?_))).mono ?_; rintro e w2 ⟨zp, kp, cp, fp, rfl, hb2, HP⟩)
      | (go_at_call 86; with_reducible refine (C2.out _ (by repeat (with_reducible first | assumption | exact Below.refl _ _ | refine Below.drew ?_ | refine kBa ?_ | refine kBb (by assumption) ?_))).mono ?_; rintro e w3 ⟨zq, kq, cq, fq, rfl, hb3, HQ⟩))
  have hb : Below w1.heap.size w1 w3 := (by repeat (with_reducible first | assumption | exact Below.refl _ _ | refine Below.drew ?_ | refine kBa ?_ | refine kBb (by assumption) ?_))
  have hkp := HP.out.1; have hkq := HQ.out.1
  have WP3 := hid (HP.out.2.below hb3)
  have WQ3 := hid HQ.out.2
  clear HP HQ C1 C2 hb2 hb3
  have HA3 := hid (HA1.out.below hb); have HB3 := hid (HB1.out.below hb); have T3 := hid (T1.out.below hb); have WG3 := hid (WG1.out.below hb); have HW3 := hid (HW1.out.trans (hb.mono HW1.out.size))
  clear HA1 HB1 T1 WG1 HW1 hb
  clear hz x0 x1 x2 y0 y1 y2 z0 z1 z2 zf
  obtain ⟨hz, x0, x1, x2, y0, y1, y2, z0, z1, z2, zf⟩ := T3.out
  have hza : w.heap.size < w3.heap.size := by omega
  have hzb : w.heap.size + 1 < w3.heap.size := by omega
  go_wp2_with fail
  refine (numer_c sa xa ya na ca ma da _).mono ?_
  rintro e w4 ⟨rfl, hb⟩
  have HA4 := hid (HA3.out.below hb); have HB4 := hid (HB3.out.below hb); have T4 := hid (T3.out.below hb); have WG4 := hid (WG3.out.below hb); have WP4 := hid (WP3.out.below hb); have WQ4 := hid (WQ3.out.below hb); have HW4 := hid (HW3.out.trans (hb.mono HW3.out.size))
  clear HA3 HB3 T3 WG3 WP3 WQ3 HW3 hb
  clear hza hzb hz x0 x1 x2 y0 y1 y2 z0 z1 z2 zf
  obtain ⟨hz, x0, x1, x2, y0, y1, y2, z0, z1, z2, zf⟩ := T4.out
  have hza : w.heap.size < w4.heap.size := by omega
  have hzb : w.heap.size + 1 < w4.heap.size := by omega
  go_wp2_with fail
  refine (mul_n HA4.out.num WQ4.out (by omega) (by omega)).mono ?_
  rintro e w5 ⟨s5, p5, k5, c5, f5, rfl, hb, hk5, hp⟩
  have WX5 := hid hp
  clear hp WQ4
  have HA5 := hid (HA4.out.below hb); have HB5 := hid (HB4.out.below hb); have T5 := hid (T4.out.below hb); have WG5 := hid (WG4.out.below hb); have WP5 := hid (WP4.out.below hb); have HW5 := hid (HW4.out.trans (hb.mono HW4.out.size))
  clear HA4 HB4 T4 WG4 WP4 HW4 hb
  clear hza hzb hz x0 x1 x2 y0 y1 y2 z0 z1 z2 zf
  obtain ⟨hz, x0, x1, x2, y0, y1, y2, z0, z1, z2, zf⟩ := T5.out
  have hza : w.heap.size < w5.heap.size := by omega
  have hzb : w.heap.size + 1 < w5.heap.size := by omega
  go_wp2_with fail
  refine (numer_c sb xb yb nb cb mb db _).mono ?_
  rintro e w6 ⟨rfl, hb⟩
  have BX6 := hid (bx_new hb)
  have HB6 := hid (HB5.out.next hb); have T6 := hid (T5.out.next hb); have WG6 := hid (WG5.out.next hb); have WP6 := hid (WP5.out.next hb); have WX6 := hid (WX5.out.next hb); have HW6 := hid ((below_alloc HW5.out _).trans (hb.mono (below_alloc HW5.out _).size))
  clear HB5 T5 WG5 WP5 WX5 HW5 hb
  clear hza hzb hz x0 x1 x2 y0 y1 y2 z0 z1 z2 zf
  obtain ⟨hz, x0, x1, x2, y0, y1, y2, z0, z1, z2, zf⟩ := T6.out
  have hza : w.heap.size < w6.heap.size := by omega
  have hzb : w.heap.size + 1 < w6.heap.size := by omega
  go_wp2_with fail
  refine (mul_n HB6.out.num WP6.out (by omega) (by omega)).mono ?_
  rintro e w7 ⟨s7, p7, k7, c7, f7, rfl, hb, hk7, hp⟩
  have WY7 := hid hp
  clear hp
  have HB7 := hid (HB6.out.below hb); have T7 := hid (T6.out.below hb); have WG7 := hid (WG6.out.below hb); have WP7 := hid (WP6.out.below hb); have WX7 := hid (WX6.out.below hb); have BX7 := hid (BX6.out.below hb); have HW7 := hid (HW6.out.trans (hb.mono HW6.out.size))
  clear HB6 T6 WG6 WP6 WX6 BX6 HW6 hb
  clear hza hzb hz x0 x1 x2 y0 y1 y2 z0 z1 z2 zf
  obtain ⟨hz, x0, x1, x2, y0, y1, y2, z0, z1, z2, zf⟩ := T7.out
  have hza : w.heap.size < w7.heap.size := by omega
  have hzb : w.heap.size + 1 < w7.heap.size := by omega
  obtain ⟨hzx, bx0, bx1⟩ := BX7.out
  go_wp2_with fail
  refine (add_o (WX7.out.alloc _) (WY7.out.alloc _) (by omega) (by omega)).mono ?_
  rintro e w8 ⟨s8, p8, k8, c8, f8, rfl, hb, hk8, hp, ho8⟩
  have WS8 := hid hp; have OS8 := hid (ho8.base (show (w.heap.size + 1 + 1 + 1) ≤ _ by rw [size_alloc1]; omega))
  clear ho8
  clear hp hzx bx0 bx1 WX7 WY7 BX7
  have HB8 := hid (HB7.out.next hb); have T8 := hid (T7.out.next hb); have WG8 := hid (WG7.out.next hb); have WP8 := hid (WP7.out.next hb); have HW8 := hid ((below_alloc HW7.out _).trans (hb.mono (below_alloc HW7.out _).size))
  clear HB7 T7 WG7 WP7 HW7 hb
  clear hza hzb hz x0 x1 x2 y0 y1 y2 z0 z1 z2 zf
  obtain ⟨hz, x0, x1, x2, y0, y1, y2, z0, z1, z2, zf⟩ := T8.out
  have hza : w.heap.size < w8.heap.size := by omega
  have hzb : w.heap.size + 1 < w8.heap.size := by omega
  have hz8 := hz
  obtain ⟨S, hS⟩ : ∃ S, S = a.num * (b.den / a.den.gcd b.den : Nat) + b.num * (a.den / a.den.gcd b.den : Nat) := ⟨_, rfl⟩
  rw [← hS] at WS8
  have HS := hid hS
  clear hS
  go_wp2_with fail
  refine (ratGcd_c (WS8.out.mag.alloc _) (WG8.out.alloc _) (by omega) (by omega)).mono ?_
  rintro e w9 ⟨zl, kl, cl, fl, rfl, hb, hl⟩
  have WL9 := hid hl; have BS9 := hid (bx_new hb)
  have hl0 : 0 < S.natAbs.gcd (a.den.gcd b.den) := Nat.gcd_pos_of_pos_right _ hG0
  have hkl : kl ≤ L := Nat.le_trans (hl.len_le WG8.out (Nat.gcd_le_right _ hG0)) (by omega)
  clear hl WG8
  have HB9 := hid (HB8.out.next hb); have T9 := hid (T8.out.next hb); have WP9 := hid (WP8.out.next hb); have WS9 := hid (WS8.out.next hb); have OS9 := hid ((OS8.out.alloc _).below hb); have HW9 := hid ((below_alloc HW8.out _).trans (hb.mono (below_alloc HW8.out _).size))
  clear HB8 T8 WP8 WS8 HW8 hb
  clear hza hzb hz x0 x1 x2 y0 y1 y2 z0 z1 z2 zf
  obtain ⟨hz, x0, x1, x2, y0, y1, y2, z0, z1, z2, zf⟩ := T9.out
  have hza : w.heap.size < w9.heap.size := by omega
  have hzb : w.heap.size + 1 < w9.heap.size := by omega
  go_wp2_with fail
  refine (over_c HB9.out.den WL9.out hl0 (by omega) (by omega)).mono ?_
  rintro e w10 ⟨zo, ko, co, fo, rfl, hb, HO⟩
  have hko := HO.out.1; have WO10 := hid HO.out.2
  clear HO HB9
  have T10 := hid (T9.out.below hb); have WP10 := hid (WP9.out.below hb); have WS10 := hid (WS9.out.below hb); have OS10 := hid (OS9.out.below hb); have WL10 := hid (WL9.out.below hb); have BS10 := hid (BS9.out.below hb); have HW10 := hid (HW9.out.trans (hb.mono HW9.out.size))
  clear T9 WP9 WS9 WL9 BS9 HW9 hb
  clear hza hzb hz x0 x1 x2 y0 y1 y2 z0 z1 z2 zf
  obtain ⟨hz, x0, x1, x2, y0, y1, y2, z0, z1, z2, zf⟩ := T10.out
  have hza : w.heap.size < w10.heap.size := by omega
  have hzb : w.heap.size + 1 < w10.heap.size := by omega
  go_wp2_with fail
  refine (natMul_o WP10.out WO10.out (by omega) (by omega)).mono ?_
  rintro e w11 ⟨zd, kd, cd, fd, rfl, hb, hkd, hp, hod⟩
  have WD11 := hid hp; have AP11 := hid (own_ap OS10.out hod (Nat.le_refl _)); have OD11 := hid (hod.base (show (w.heap.size + 1 + 1 + 1) ≤ _ by omega))
  clear hod
  clear hp WP10 WO10
  have T11 := hid (T10.out.below hb); have WS11 := hid (WS10.out.below hb); have OS11 := hid (OS10.out.below hb); have WL11 := hid (WL10.out.below hb); have BS11 := hid (BS10.out.below hb); have HW11 := hid (HW10.out.trans (hb.mono HW10.out.size))
  clear T10 WS10 WL10 BS10 HW10 hb
  clear hza hzb hz x0 x1 x2 y0 y1 y2 z0 z1 z2 zf
  obtain ⟨hz, x0, x1, x2, y0, y1, y2, z0, z1, z2, zf⟩ := T11.out
  have hza : w.heap.size < w11.heap.size := by omega
  have hzb : w.heap.size + 1 < w11.heap.size := by omega
  obtain ⟨hzs, bs0, bs1⟩ := BS11.out
  have C3 : Hid (∀ W, Below w11.heap.size w11 W → Calls Tryz.prog 86 #[.slice p8 k8 c8, .slice zl kl cl] W fun e w' => ∃ z k e' h, e = .returned (.slice z k e') ∧ Below W.heap.size W w' ∧ Hid (k ≤ k8 ∧ Wn w' false z k e' h (S.natAbs / S.natAbs.gcd (a.den.gcd b.den) : Nat) ∧ Own .u64 28 w' (w.heap.size + 1 + 1 + 1) (.slice z k e') k h ∧ Apart z zd)) := fun W hW => (over_o (WS11.out.mag.below hW) (WL11.out.below hW) hl0 (by omega) (by omega) (OS11.out.below hW) (Nat.le_trans (show (w.heap.size + 1 + 1 + 1) ≤ w11.heap.size by omega) hW.size)).mono (fun _ _ ⟨z, k, e', h, k1, k2, k3⟩ => ⟨z, k, e', h, k1, k2, k3.out.1, k3.out.2.1, k3.out.2.2.1, k3.out.2.2.2 zd (fun p hp => Nat.lt_of_lt_of_le (own_und OD11.out p hp) hW.size) AP11.out⟩)
  have C4 : Hid (∀ (W : World) (z : Option Addr) (k c : Nat), k ≤ 1048576 → Calls Tryz.prog 52 #[.bool s8, .slice z k c, .slice zd kd cd] W fun e w' => ∃ r, e = .returned (.agg #[.bool r, .slice z k c, .slice zd kd cd]) ∧ Below W.heap.size W w' ∧ Hid (r = (s8 && decide (0 < k)))) := fun W z k c hk => (rsigned_c s8 z zd k c kd cd W (by omega)).mono (fun e w' ⟨r, h1, h2, h3⟩ => ⟨r, h1, h3, h2⟩)
  go_wp2_with fail
  go_region_held3 (fun w' => w'.cell? ⟨w8.heap.size, 0, none⟩ = some (.bool s8) ∧ w'.cell? ⟨w8.heap.size, 1, none⟩ = some (.slice p8 k8 c8) ∧ (w'.cell? ⟨w.heap.size + 1 + 1, 0, none⟩).isSome = true ∧ (w'.cell? ⟨w.heap.size + 1 + 1, 1, none⟩).isSome = true ∧ (w'.cell? ⟨w.heap.size + 1 + 1, 2, none⟩).isSome = true ∧ w'.frozen? ⟨w.heap.size + 1 + 1, 0, none⟩ = false ∧ w'.frozen? ⟨w.heap.size + 1 + 1, 1, none⟩ = false ∧ w'.frozen? ⟨w.heap.size + 1 + 1, 2, none⟩ = false)
    (refine ⟨?_, ?_, ?_, ?_, ?_, ?_, ?_, ?_⟩ <;> repeat (with_reducible first | assumption | exact zf _ | exact uf _ | exact vf' _ | exact kI0 z0 | exact kI0 z1 | exact kI0 z2 | exact kI0 u0 | exact kI0 u1 | exact kI0 u2 | exact kI0 v0 | exact kI0 v1 | exact kI0 v2 | refine kCd ?_ | refine kId ?_ | refine kFd ?_ | refine kCs (by simp only [ne_eq]; omega) ?_ | refine kIs ?_ | refine kFs ?_ | refine kCb (by assumption) ?_ | refine kIb (by assumption) ?_))
    (first
      | (go_at_call 86; with_reducible refine (C3.out _ (by repeat (with_reducible first | assumption | exact Below.refl _ _ | refine Below.drew ?_ | refine kBa ?_ | refine kBb (by assumption) ?_))).mono ?_; rintro e w12 ⟨zn, kn, cn, fn, rfl, hb2, HN⟩; have hkn : kn ≤ 1048576 := (by have := HN.out.1; omega); have TU : Three w.heap.size w12 (.bool sa) (.slice xa na ca) (.slice ya ma da) (.bool sb) (.slice xb nb cb) (.slice yb mb db) (.bool false) (.slice none 0 0) (.slice none 0 0) := (by repeat (with_reducible first | exact T11.out | exact TU | refine kTd ?_ | refine kTb (by assumption) ?_)); obtain ⟨_, _, _, _, _, _, _, u0, u1, u2, uf⟩ := id TU)
      | (go_at_call 52; with_reducible refine (C4.out _ zn kn cn hkn).mono ?_; rintro e w13 ⟨rs, rfl, hb3, HRS⟩; have TV : Three w.heap.size w13 (.bool sa) (.slice xa na ca) (.slice ya ma da) (.bool sb) (.slice xb nb cb) (.slice yb mb db) (.bool false) (.slice none 0 0) (.slice none 0 0) := (by repeat (with_reducible first | exact T11.out | exact TU | refine kTd ?_ | refine kTb (by assumption) ?_)); obtain ⟨_, _, _, _, _, _, _, v0, v1, v2, vf'⟩ := id TV))
  have WN : Wn w13 false zn kn cn fn _ := HN.out.2.1.below hb3
  have ON := HN.out.2.2.1.below hb3
  have hw13 : Below w11.heap.size w11 w13 := (by repeat (with_reducible first | assumption | exact Below.refl _ _ | refine Below.drew ?_ | refine kBa ?_ | refine kBb (by assumption) ?_))
  have hm := add_made HS.out WS11.out.sgn
  have hkn' := HN.out.1
  go_wp2
  refine bodyPost_ret (v := .agg #[.bool rs, .slice zn kn cn, .slice zd kd cd]) (by simp [results, Tryz.results55, go_sem, v0, v1, v2]) rfl ⟨rs, zn, kn, cn, fn, zd, kd, cd, fd, rfl, below_store (HW11.out.trans (hw13.mono HW11.out.size)), ⟨?_, ?_, ?_, ?_⟩, (own_st3 ON (by omega)).base (by omega), (own_st3 (OD11.out.below hw13) (by omega)).base (by omega), HN.out.2.2.2⟩
  · rw [← hm.1]; exact TV.store (WN.resign HRS.out)
  · rw [← hm.2]; exact TV.store (WD11.out.below hw13)
  · omega
  · omega
set_option maxRecDepth 100000 in
set_option maxHeartbeats 4000000 in
theorem ratmul_o {L : Nat} {w : World} {sa : Bool} {xa : Option Addr} {na ca : Nat} {fa : Nat → Int} {ya : Option Addr} {ma da : Nat} {ga : Nat → Int} {a : Rat} {sb : Bool} {xb : Option Addr} {nb cb : Nat} {fb : Nat → Int} {yb : Option Addr} {mb db : Nat} {gb : Nat → Int} {b : Rat} (ha : Rn L w sa xa na ca fa ya ma da ga a) (hb : Rn L w sb xb nb cb fb yb mb db gb b) (hL : L ≤ 200000) :
    Calls Tryz.prog 68 #[.agg #[.bool sa, .slice xa na ca, .slice ya ma da], .agg #[.bool sb, .slice xb nb cb, .slice yb mb db]] w fun e w' => RatAnsO (2 * L + 1) w w' e (a * b) := by
  have b1 := ha.ln; have b2 := ha.ld; have b3 := hb.ln; have b4 := hb.ld
  have hbel := Below.refl (((w.alloc (.cells #[.bool sa, .slice xa na ca, .slice ya ma da] 24)).alloc (.cells #[.bool sb, .slice xb nb cb, .slice yb mb db] 24)).alloc (.cells #[.bool false, .slice none 0 0, .slice none 0 0] 24)).heap.size (((w.alloc (.cells #[.bool sa, .slice xa na ca, .slice ya ma da] 24)).alloc (.cells #[.bool sb, .slice xb nb cb, .slice yb mb db] 24)).alloc (.cells #[.bool false, .slice none 0 0, .slice none 0 0] 24))
  obtain ⟨t1, hw⟩ := three_new hbel
  have h1 := (((ha.alloc (.cells #[.bool sa, .slice xa na ca, .slice ya ma da] 24)).alloc (.cells #[.bool sb, .slice xb nb cb, .slice yb mb db] 24)).alloc (.cells #[.bool false, .slice none 0 0, .slice none 0 0] 24))
  have h2 := (((hb.alloc (.cells #[.bool sa, .slice xa na ca, .slice ya ma da] 24)).alloc (.cells #[.bool sb, .slice xb nb cb, .slice yb mb db] 24)).alloc (.cells #[.bool false, .slice none 0 0, .slice none 0 0] 24))
  clear hbel ha hb
  go_enter Tryz.func68, Tryz.ntmps68
  go_wp2_with fail
  generalize ((w.alloc (.cells #[.bool sa, .slice xa na ca, .slice ya ma da] 24)).alloc (.cells #[.bool sb, .slice xb nb cb, .slice yb mb db] 24)).alloc (.cells #[.bool false, .slice none 0 0, .slice none 0 0] 24) = w1 at *
  have HA1 := hid h1; have HB1 := hid h2; have T1 := hid t1; have HW1 := hid hw
  obtain ⟨hz, x0, x1, x2, y0, y1, y2, z0, z1, z2, zf⟩ := t1
  have hza : w.heap.size < w1.heap.size := by omega
  have hzb : w.heap.size + 1 < w1.heap.size := by omega
  clear h1 h2 hw
  have hG0 : 0 < a.num.natAbs.gcd b.den := Nat.gcd_pos_of_pos_right _ b.den_pos
  have hH0 : 0 < b.num.natAbs.gcd a.den := Nat.gcd_pos_of_pos_right _ a.den_pos
  have C1 : Hid (∀ W, Below w1.heap.size w1 W → Calls Tryz.prog 50 #[.slice xa na ca, .slice yb mb db] W fun e w' => ∃ z k e' h, e = .returned (.slice z k e') ∧ Below W.heap.size W w' ∧ Hid (k ≤ L ∧ Wn w' false z k e' h (a.num.natAbs.gcd b.den : Nat))) := fun W hW => (ratGcd_c (HA1.out.num.mag.below hW) (HB1.out.den.below hW) (by omega) (by omega)).mono (fun e w' ⟨z, k, e', h, h1, h2, h3⟩ => ⟨z, k, e', h, h1, h2, Nat.le_trans (h3.len_le ((HB1.out.den.below hW).below h2) (Nat.gcd_le_right _ b.den_pos)) (by omega), h3⟩)
  have C2 : Hid (∀ W, Below w1.heap.size w1 W → Calls Tryz.prog 50 #[.slice xb nb cb, .slice ya ma da] W fun e w' => ∃ z k e' h, e = .returned (.slice z k e') ∧ Below W.heap.size W w' ∧ Hid (k ≤ L ∧ Wn w' false z k e' h (b.num.natAbs.gcd a.den : Nat))) := fun W hW => (ratGcd_c (HB1.out.num.mag.below hW) (HA1.out.den.below hW) (by omega) (by omega)).mono (fun e w' ⟨z, k, e', h, h1, h2, h3⟩ => ⟨z, k, e', h, h1, h2, Nat.le_trans (h3.len_le ((HA1.out.den.below hW).below h2) (Nat.gcd_le_right _ a.den_pos)) (by omega), h3⟩)
  go_region_held3 (fun w' => w'.cell? ⟨w.heap.size, 1, none⟩ = some (.slice xa na ca) ∧ w'.cell? ⟨w.heap.size + 1, 2, none⟩ = some (.slice yb mb db) ∧ w'.cell? ⟨w.heap.size + 1, 1, none⟩ = some (.slice xb nb cb) ∧ w'.cell? ⟨w.heap.size, 2, none⟩ = some (.slice ya ma da))
    (refine ⟨?_, ?_, ?_, ?_⟩ <;> repeat (with_reducible first | assumption | refine kCd ?_ | refine kCa ?_ | refine kCb (by assumption) ?_))
    (first
      | (go_at_call 50; with_reducible refine (C1.out _ (by repeat (with_reducible first | assumption | exact Below.refl _ _ | refine Below.drew ?_ | refine kBa ?_ | refine kBb (by assumption) ?_))).mono ?_; rintro e w2 ⟨zg, kg, cg, fg, rfl, hb2, HG⟩)
      | (go_at_call 50; with_reducible refine (C2.out _ (by repeat (with_reducible first | assumption | exact Below.refl _ _ | refine Below.drew ?_ | refine kBa ?_ | refine kBb (by assumption) ?_))).mono ?_; rintro e w3 ⟨zh, kh, ch, fh, rfl, hb3, HH⟩))
  have WG3 := hid (HG.out.2.below hb3); have WH3 := hid HH.out.2
  have hkg := HG.out.1; have hkh := HH.out.1
  have hb : Below w1.heap.size w1 w3 := (by repeat (with_reducible first | assumption | exact Below.refl _ _ | refine Below.drew ?_ | refine kBa ?_ | refine kBb (by assumption) ?_))
  clear HG HH C1 C2 hb2 hb3
  have HA3 := hid (HA1.out.below hb); have HB3 := hid (HB1.out.below hb); have T3 := hid (T1.out.below hb); have HW3 := hid (HW1.out.trans (hb.mono HW1.out.size))
  clear HA1 HB1 T1 HW1 hb
  clear hza hzb hz x0 x1 x2 y0 y1 y2 z0 z1 z2 zf
  obtain ⟨hz, x0, x1, x2, y0, y1, y2, z0, z1, z2, zf⟩ := T3.out
  have hza : w.heap.size < w3.heap.size := by omega
  have hzb : w.heap.size + 1 < w3.heap.size := by omega
  have C1 : Hid (∀ W, Below w3.heap.size w3 W → Calls Tryz.prog 86 #[.slice xa na ca, .slice zg kg cg] W fun e w' => ∃ z k e' h, e = .returned (.slice z k e') ∧ Below W.heap.size W w' ∧ Hid (k ≤ L ∧ Wn w' false z k e' h (a.num.natAbs / a.num.natAbs.gcd b.den : Nat))) := fun W hW => (over_c (HA3.out.num.mag.below hW) (WG3.out.below hW) hG0 (by omega) (by omega)).mono (fun e w' ⟨z, k, e', h, h1, h2, h3⟩ => ⟨z, k, e', h, h1, h2, by have := h3.out.1; omega, h3.out.2⟩)
  have C2 : Hid (∀ W, Below w3.heap.size w3 W → Calls Tryz.prog 86 #[.slice xb nb cb, .slice zh kh ch] W fun e w' => ∃ z k e' h, e = .returned (.slice z k e') ∧ Below W.heap.size W w' ∧ Hid (k ≤ L ∧ Wn w' false z k e' h (b.num.natAbs / b.num.natAbs.gcd a.den : Nat))) := fun W hW => (over_c (HB3.out.num.mag.below hW) (WH3.out.below hW) hH0 (by omega) (by omega)).mono (fun e w' ⟨z, k, e', h, h1, h2, h3⟩ => ⟨z, k, e', h, h1, h2, by have := h3.out.1; omega, h3.out.2⟩)
  go_wp2_with fail
  go_region_held3 (fun w' => w'.cell? ⟨w.heap.size, 1, none⟩ = some (.slice xa na ca) ∧ w'.cell? ⟨w.heap.size + 1, 1, none⟩ = some (.slice xb nb cb))
    (refine ⟨?_, ?_⟩ <;> repeat (with_reducible first | assumption | refine kCd ?_ | refine kCa ?_ | refine kCb (by assumption) ?_))
    (first
      | (go_at_call 86; with_reducible refine (C1.out _ (by repeat (with_reducible first | assumption | exact Below.refl _ _ | refine Below.drew ?_ | refine kBa ?_ | refine kBb (by assumption) ?_))).mono ?_; rintro e w4 ⟨zp, kp, cp, fp, rfl, hb4, HP⟩)
      | (go_at_call 86; with_reducible refine (C2.out _ (by repeat (with_reducible first | assumption | exact Below.refl _ _ | refine Below.drew ?_ | refine kBa ?_ | refine kBb (by assumption) ?_))).mono ?_; rintro e w5 ⟨zq, kq, cq, fq, rfl, hb5, HQ⟩)
      | (go_at_call 89; with_reducible refine (natMul_o (HP.out.2.below hb5) HQ.out.2 (by have := HP.out.1; omega) (by have := HQ.out.1; omega)).mono ?_; rintro e w6 ⟨zn, kn, cn, fn, rfl, hb6, hkn, hmn, hon⟩))
  have WN6 := hid hmn; have ON6 := hid (hon.base (show (w.heap.size + 1 + 1 + 1) ≤ w5.heap.size by have h9 : Below w3.heap.size w3 w5 := (by repeat (with_reducible first | assumption | exact Below.refl _ _ | refine Below.drew ?_ | refine kBa ?_ | refine kBb (by assumption) ?_)); have := h9.size; omega))
  have hkp := HP.out.1; have hkq := HQ.out.1
  have hb : Below w3.heap.size w3 w6 := (by repeat (with_reducible first | assumption | exact Below.refl _ _ | refine Below.drew ?_ | refine kBa ?_ | refine kBb (by assumption) ?_))
  clear HP HQ C1 C2 hb4 hb5 hb6 hmn
  have HA6 := hid (HA3.out.below hb); have HB6 := hid (HB3.out.below hb); have T6 := hid (T3.out.below hb); have WG6 := hid (WG3.out.below hb); have WH6 := hid (WH3.out.below hb); have HW6 := hid (HW3.out.trans (hb.mono HW3.out.size))
  clear HA3 HB3 T3 WG3 WH3 HW3 hb
  clear hza hzb hz x0 x1 x2 y0 y1 y2 z0 z1 z2 zf
  obtain ⟨hz, x0, x1, x2, y0, y1, y2, z0, z1, z2, zf⟩ := T6.out
  have hza : w.heap.size < w6.heap.size := by omega
  have hzb : w.heap.size + 1 < w6.heap.size := by omega
  have C1 : Hid (∀ W, Below w6.heap.size w6 W → Calls Tryz.prog 86 #[.slice ya ma da, .slice zh kh ch] W fun e w' => ∃ z k e' h, e = .returned (.slice z k e') ∧ Below W.heap.size W w' ∧ Hid (k ≤ L ∧ Wn w' false z k e' h (a.den / b.num.natAbs.gcd a.den : Nat))) := fun W hW => (over_c (HA6.out.den.below hW) (WH6.out.below hW) hH0 (by omega) (by omega)).mono (fun e w' ⟨z, k, e', h, h1, h2, h3⟩ => ⟨z, k, e', h, h1, h2, by have := h3.out.1; omega, h3.out.2⟩)
  have C2 : Hid (∀ W, Below w6.heap.size w6 W → Calls Tryz.prog 86 #[.slice yb mb db, .slice zg kg cg] W fun e w' => ∃ z k e' h, e = .returned (.slice z k e') ∧ Below W.heap.size W w' ∧ Hid (k ≤ L ∧ Wn w' false z k e' h (b.den / a.num.natAbs.gcd b.den : Nat))) := fun W hW => (over_c (HB6.out.den.below hW) (WG6.out.below hW) hG0 (by omega) (by omega)).mono (fun e w' ⟨z, k, e', h, h1, h2, h3⟩ => ⟨z, k, e', h, h1, h2, by have := h3.out.1; omega, h3.out.2⟩)
  go_wp2_with fail
  go_region_held3 (fun w' => w'.cell? ⟨w.heap.size, 2, none⟩ = some (.slice ya ma da) ∧ w'.cell? ⟨w.heap.size + 1, 2, none⟩ = some (.slice yb mb db))
    (refine ⟨?_, ?_⟩ <;> repeat (with_reducible first | assumption | refine kCd ?_ | refine kCa ?_ | refine kCb (by assumption) ?_))
    (first
      | (go_at_call 86; with_reducible refine (C1.out _ (by repeat (with_reducible first | assumption | exact Below.refl _ _ | refine Below.drew ?_ | refine kBa ?_ | refine kBb (by assumption) ?_))).mono ?_; rintro e w7 ⟨zr, kr, cr, fr, rfl, hb7, HP⟩)
      | (go_at_call 86; with_reducible refine (C2.out _ (by repeat (with_reducible first | assumption | exact Below.refl _ _ | refine Below.drew ?_ | refine kBa ?_ | refine kBb (by assumption) ?_))).mono ?_; rintro e w8 ⟨zs, ks, cs, fs, rfl, hb8, HQ⟩)
      | (go_at_call 89; with_reducible refine (natMul_o (HP.out.2.below hb8) HQ.out.2 (by have := HP.out.1; omega) (by have := HQ.out.1; omega)).mono ?_; rintro e w9 ⟨zd, kd, cd, fd, rfl, hb9, hkd, hmd, hod⟩))
  have WD9 := hid hmd; have AP9 := hid (own_ap ON6.out hod (by have h9 : Below w6.heap.size w6 w8 := (by repeat (with_reducible first | assumption | exact Below.refl _ _ | refine Below.drew ?_ | refine kBa ?_ | refine kBb (by assumption) ?_)); exact h9.size)); have OD9 := hid (hod.base (show (w.heap.size + 1 + 1 + 1) ≤ w8.heap.size by have h9 : Below w6.heap.size w6 w8 := (by repeat (with_reducible first | assumption | exact Below.refl _ _ | refine Below.drew ?_ | refine kBa ?_ | refine kBb (by assumption) ?_)); have := h9.size; omega))
  have hkr := HP.out.1; have hks := HQ.out.1
  have hb : Below w6.heap.size w6 w9 := (by repeat (with_reducible first | assumption | exact Below.refl _ _ | refine Below.drew ?_ | refine kBa ?_ | refine kBb (by assumption) ?_))
  clear HP HQ C1 C2 hb7 hb8 hb9 hmd
  have HA9 := hid (HA6.out.below hb); have HB9 := hid (HB6.out.below hb); have T9 := hid (T6.out.below hb); have WN9 := hid (WN6.out.below hb); have ON9 := hid (ON6.out.below hb); have HW9 := hid (HW6.out.trans (hb.mono HW6.out.size))
  clear HA6 HB6 T6 WN6 HW6 hb
  clear hza hzb hz x0 x1 x2 y0 y1 y2 z0 z1 z2 zf
  obtain ⟨hz, x0, x1, x2, y0, y1, y2, z0, z1, z2, zf⟩ := T9.out
  have hza : w.heap.size < w9.heap.size := by omega
  have hzb : w.heap.size + 1 < w9.heap.size := by omega
  go_wp2_with fail
  refine (rsigned_c _ zn zd kn cn kd cd _ (by omega)).mono ?_
  rintro e w10 ⟨rs, rfl, HRS, hb⟩
  have HA10 := hid (HA9.out.below hb); have HB10 := hid (HB9.out.below hb); have T10 := hid (T9.out.below hb); have WN10 := hid (WN9.out.below hb); have WD10 := hid (WD9.out.below hb); have ON10 := hid (ON9.out.below hb); have OD10 := hid (OD9.out.below hb); have HW10 := hid (HW9.out.trans (hb.mono HW9.out.size))
  clear HA9 HB9 T9 WN9 WD9 HW9 hb
  clear hza hzb hz x0 x1 x2 y0 y1 y2 z0 z1 z2 zf
  obtain ⟨hz, x0, x1, x2, y0, y1, y2, z0, z1, z2, zf⟩ := T10.out
  have hza : w.heap.size < w10.heap.size := by omega
  have hzb : w.heap.size + 1 < w10.heap.size := by omega
  have hm := mul_made HA10.out.num.sgn HB10.out.num.sgn
  go_wp2
  refine bodyPost_ret (v := .agg #[.bool rs, .slice zn kn cn, .slice zd kd cd]) (by simp [results, Tryz.results68, go_sem, z0, z1, z2]) rfl ⟨rs, zn, kn, cn, fn, zd, kd, cd, fd, rfl, below_store HW10.out, ⟨?_, ?_, ?_, ?_⟩, (own_st3 ON10.out (by omega)).base (by omega), (own_st3 OD10.out (by omega)).base (by omega), AP9.out⟩
  · rw [← hm.1]; exact T10.out.store (WN10.out.resign HRS.out)
  · rw [← hm.2]; exact T10.out.store WD10.out
  · omega
  · omega
end Go.Proofs.YtlpmfmphglgocaaGreatDoor
namespace Go.Proofs.YtlpmfmphglgocaaGreatDoor
open Go.RowKit

set_option maxRecDepth 100000 in
set_option maxHeartbeats 4000000 in
theorem rAdd_o {L : Nat} {w : World} {sa : Bool} {xa : Option Addr} {na ca : Nat} {fa : Nat → Int} {ya : Option Addr} {ma da : Nat} {ga : Nat → Int} {a : Rat} {sb : Bool} {xb : Option Addr} {nb cb : Nat} {fb : Nat → Int} {yb : Option Addr} {mb db : Nat} {gb : Nat → Int} {b : Rat} (ha : Rn L w sa xa na ca fa ya ma da ga a) (hb : Rn L w sb xb nb cb fb yb mb db gb b) (hL : L ≤ 200000) :
    Calls Tryz.prog 19 #[.agg #[.bool sa, .slice xa na ca, .slice ya ma da], .agg #[.bool sb, .slice xb nb cb, .slice yb mb db]] w fun e w' => RatTupO (2 * L + 1) w w' e (a + b) := by
  have HA0 := hid ha; have HB0 := hid hb
  clear ha hb
  go_enter Tryz.func19, Tryz.ntmps19
  go_wp2_with fail
  refine (rForm_n (((HA0.out.alloc _).alloc _).alloc _) (by omega)).mono ?_
  rintro e w1 ⟨rfl, hbel⟩
  obtain ⟨⟨hz, x0, x1, x2, y0, y1, y2, z0, z1, z2, zf⟩, hw⟩ := three_new hbel
  have T1 : Hid (Three w.heap.size w1 _ _ _ _ _ _ _ _ _) := ⟨hz, x0, x1, x2, y0, y1, y2, z0, z1, z2, zf⟩
  have HW1 := hid hw; have HA1 := hid (HA0.out.below hw); have HB1 := hid (HB0.out.below hw)
  clear hbel hw HA0 HB0
  go_wp2_with fail
  refine (rForm_n HB1.out (by omega)).mono ?_
  rintro e w2 ⟨rfl, hb⟩
  have HA2 := hid (HA1.out.below hb); have HB2 := hid (HB1.out.below hb); have T2 := hid (T1.out.below hb); have HW2 := hid (HW1.out.trans (hb.mono HW1.out.size))
  clear HA1 HB1 T1 HW1 hb
  clear hz x0 x1 x2 y0 y1 y2 z0 z1 z2 zf
  obtain ⟨hz, x0, x1, x2, y0, y1, y2, z0, z1, z2, zf⟩ := T2.out
  have hza : w.heap.size < w2.heap.size := by omega
  have hzb : w.heap.size + 1 < w2.heap.size := by omega
  go_wp2_with fail
  refine (ratadd_o HA2.out HB2.out hL).mono ?_
  rintro e w3 ⟨rs, zn, kn, cn, fn, zd, kd, cd, fd, rfl, hb, hr, hon, hod, hap⟩
  have HR := hid hr; have AP := hid hap; have ON := hid (hon.base (show (w.heap.size + 1 + 1 + 1) ≤ _ by omega)); have OD := hid (hod.base (show (w.heap.size + 1 + 1 + 1) ≤ _ by omega))
  clear hon hod hap
  clear hr
  have T3 := hid (T2.out.below hb); have HW3 := hid (HW2.out.trans (hb.mono HW2.out.size))
  clear T2 HW2 hb
  clear hza hzb hz x0 x1 x2 y0 y1 y2 z0 z1 z2 zf
  obtain ⟨hz, x0, x1, x2, y0, y1, y2, z0, z1, z2, zf⟩ := T3.out
  have hza : w.heap.size < w3.heap.size := by omega
  have hzb : w.heap.size + 1 < w3.heap.size := by omega
  go_wp2
  refine bodyPost_ret (v := .tuple #[.agg #[.bool rs, .slice zn kn cn, .slice zd kd cd], .int .i64 0]) (by simp [results, Tryz.results19, go_sem, z0, z1, z2]) rfl ⟨rs, zn, kn, cn, fn, zd, kd, cd, fd, rfl, below_store HW3.out, ⟨?_, ?_, HR.out.ln, HR.out.ld⟩, (own_st3 ON.out (by omega)).base (by omega), (own_st3 OD.out (by omega)).base (by omega), AP.out⟩
  · exact T3.out.store HR.out.num
  · exact T3.out.store HR.out.den

set_option maxRecDepth 100000 in
set_option maxHeartbeats 4000000 in
theorem rMul_o {L : Nat} {w : World} {sa : Bool} {xa : Option Addr} {na ca : Nat} {fa : Nat → Int} {ya : Option Addr} {ma da : Nat} {ga : Nat → Int} {a : Rat} {sb : Bool} {xb : Option Addr} {nb cb : Nat} {fb : Nat → Int} {yb : Option Addr} {mb db : Nat} {gb : Nat → Int} {b : Rat} (ha : Rn L w sa xa na ca fa ya ma da ga a) (hb : Rn L w sb xb nb cb fb yb mb db gb b) (hL : L ≤ 200000) :
    Calls Tryz.prog 28 #[.agg #[.bool sa, .slice xa na ca, .slice ya ma da], .agg #[.bool sb, .slice xb nb cb, .slice yb mb db]] w fun e w' => RatTupO (2 * L + 1) w w' e (a * b) := by
  have HA0 := hid ha; have HB0 := hid hb
  clear ha hb
  go_enter Tryz.func28, Tryz.ntmps28
  go_wp2_with fail
  refine (rForm_n (((HA0.out.alloc _).alloc _).alloc _) (by omega)).mono ?_
  rintro e w1 ⟨rfl, hbel⟩
  obtain ⟨⟨hz, x0, x1, x2, y0, y1, y2, z0, z1, z2, zf⟩, hw⟩ := three_new hbel
  have T1 : Hid (Three w.heap.size w1 _ _ _ _ _ _ _ _ _) := ⟨hz, x0, x1, x2, y0, y1, y2, z0, z1, z2, zf⟩
  have HW1 := hid hw; have HA1 := hid (HA0.out.below hw); have HB1 := hid (HB0.out.below hw)
  clear hbel hw HA0 HB0
  go_wp2_with fail
  refine (rForm_n HB1.out (by omega)).mono ?_
  rintro e w2 ⟨rfl, hb⟩
  have HA2 := hid (HA1.out.below hb); have HB2 := hid (HB1.out.below hb); have T2 := hid (T1.out.below hb); have HW2 := hid (HW1.out.trans (hb.mono HW1.out.size))
  clear HA1 HB1 T1 HW1 hb
  clear hz x0 x1 x2 y0 y1 y2 z0 z1 z2 zf
  obtain ⟨hz, x0, x1, x2, y0, y1, y2, z0, z1, z2, zf⟩ := T2.out
  have hza : w.heap.size < w2.heap.size := by omega
  have hzb : w.heap.size + 1 < w2.heap.size := by omega
  go_wp2_with fail
  refine (ratmul_o HA2.out HB2.out hL).mono ?_
  rintro e w3 ⟨rs, zn, kn, cn, fn, zd, kd, cd, fd, rfl, hb, hr, hon, hod, hap⟩
  have HR := hid hr; have AP := hid hap; have ON := hid (hon.base (show (w.heap.size + 1 + 1 + 1) ≤ _ by omega)); have OD := hid (hod.base (show (w.heap.size + 1 + 1 + 1) ≤ _ by omega))
  clear hon hod hap
  clear hr
  have T3 := hid (T2.out.below hb); have HW3 := hid (HW2.out.trans (hb.mono HW2.out.size))
  clear T2 HW2 hb
  clear hza hzb hz x0 x1 x2 y0 y1 y2 z0 z1 z2 zf
  obtain ⟨hz, x0, x1, x2, y0, y1, y2, z0, z1, z2, zf⟩ := T3.out
  have hza : w.heap.size < w3.heap.size := by omega
  have hzb : w.heap.size + 1 < w3.heap.size := by omega
  go_wp2
  refine bodyPost_ret (v := .tuple #[.agg #[.bool rs, .slice zn kn cn, .slice zd kd cd], .int .i64 0]) (by simp [results, Tryz.results28, go_sem, z0, z1, z2]) rfl ⟨rs, zn, kn, cn, fn, zd, kd, cd, fd, rfl, below_store HW3.out, ⟨?_, ?_, HR.out.ln, HR.out.ld⟩, (own_st3 ON.out (by omega)).base (by omega), (own_st3 OD.out (by omega)).base (by omega), AP.out⟩
  · exact T3.out.store HR.out.num
  · exact T3.out.store HR.out.den

end Go.Proofs.YtlpmfmphglgocaaGreatDoor
namespace Go.Proofs.YtlpmfmphglgocaaGreatDoor
open Go.RowKit

theorem dWord_c {w : World} {V : Nat} (hV : V < 4294967296) :
    Calls Tryz.prog 85 #[.int .u64 (V : Int)] w fun e w' => ∃ z k c d, e = .returned (.slice z k c) ∧ Below w.heap.size w w' ∧ Hid (k ≤ 1 ∧ Dn w' z k d V) :=
  (word_c V w (by omega) (by omega)).mono (fun _ _ ⟨k, h1, h2, h3, h4, h5, h6⟩ => ⟨_, k, 2, _, h1, h2, h3, h4, fun j hj => ⟨by omega, by omega⟩, h6, by
    rcases (show k = 0 ∨ k = 1 by omega) with h | h
    · subst h; have := h5 rfl; simp [vd]; omega
    · subst h; simp [vd, pd]⟩)
end Go.Proofs.YtlpmfmphglgocaaGreatDoor
namespace Go.Proofs.YtlpmfmphglgocaaGreatDoor
open Go.RowKit

end Go.Proofs.YtlpmfmphglgocaaGreatDoor
namespace Go.Proofs.YtlpmfmphglgocaaGreatDoor
open Go.RowKit

end Go.Proofs.YtlpmfmphglgocaaGreatDoor
namespace Go.Proofs.YtlpmfmphglgocaaGreatDoor
open Go.RowKit

end Go.Proofs.YtlpmfmphglgocaaGreatDoor
namespace Go.Proofs.YtlpmfmphglgocaaGreatDoor
open Go.RowKit

end Go.Proofs.YtlpmfmphglgocaaGreatDoor
namespace Go.Proofs.YtlpmfmphglgocaaGreatDoor
open Go.RowKit

/-- Two boxes of three cells. -/
theorem two_new {w w1 : World} {a0 a1 a2 b0 b1 b2 : Value} {t : TypeId} (hb : Below ((w.alloc (.cells #[a0, a1, a2] t)).alloc (.cells #[b0, b1, b2] t)).heap.size ((w.alloc (.cells #[a0, a1, a2] t)).alloc (.cells #[b0, b1, b2] t)) w1) :
    Bx3 w1 w.heap.size a0 a1 a2 ∧ Bx3 w1 (w.heap.size + 1) b0 b1 b2 ∧ Below w.heap.size w w1 := by
  have h2 := bx3_at (w.alloc (.cells #[a0, a1, a2] t)) b0 b1 b2 t
  rw [size_alloc1] at h2
  exact ⟨((bx3_at w a0 a1 a2 t).alloc _).below hb, h2.below hb, (below_alloc (below_alloc (Below.refl w.heap.size w) _) _).trans (hb.mono (by simp; omega))⟩
theorem beq_bool_true {s t : Bool} (h : s = t) : (s == t) = true := by subst h; cases s <;> rfl
theorem beq_bool_false {s t : Bool} (h : ¬ s = t) : (s == t) = false := by cases s <;> cases t <;> first | rfl | exact absurd rfl h
set_option maxHeartbeats 1000000 in
theorem rSame_c (sa : Bool) (xa ya : Option Addr) (na ca ma da : Nat) (fa ga : Nat → Int) (sb : Bool) (xb yb : Option Addr) (nb cb mb db : Nat) (fb gb : Nat → Int) (w : World) (h1 : Rd .u64 w xa na fa) (h2 : Rd .u64 w ya ma ga) (h3 : Rd .u64 w xb nb fb) (h4 : Rd .u64 w yb mb gb) (l1 : na ≤ 140737488355328) (l2 : ma ≤ 140737488355328) (l3 : nb ≤ 140737488355328) (l4 : mb ≤ 140737488355328) :
    Calls Tryz.prog 9 #[.agg #[.bool sa, .slice xa na ca, .slice ya ma da], .agg #[.bool sb, .slice xb nb cb, .slice yb mb db]] w fun e w' => ∃ b, e = .returned (.bool b) ∧ Below w.heap.size w w' ∧ (b = true ↔ sa = sb ∧ Alk na nb fa fb ∧ Alk ma mb ga gb) := by
  have H1 := hid h1; have H2 := hid h2; have H3 := hid h3; have H4 := hid h4
  clear h1 h2 h3 h4
  by_cases hs : sa = sb
  · have hse := beq_bool_true hs
    have HS := hid hs
    clear hs
    go_enter Tryz.func9, Tryz.ntmps9
    go_wp2_with fail
    refine (same_c xa xb na nb ca cb fa fb _ l1 l3 ((H1.out.alloc _).alloc _) ((H3.out.alloc _).alloc _)).mono ?_
    rintro e w1 ⟨⟨q, hq⟩, b, rfl, hb1⟩
    obtain ⟨⟨za, x0, x1, x2⟩, ⟨zb, y0, y1, y2⟩, hw⟩ := two_new (drewN_below hq)
    have HW1 := hid hw; have HB1 := hid hb1
    clear hq hw hb1
    cases b
    · go_wp2
      go_ret
      exact ⟨false, rfl, HW1.out, (fun h => by cases h), fun h => HB1.out.2 h.2.1⟩
    · go_wp2_with fail
      refine (same_c ya yb ma mb da db ga gb _ l2 l4 (H2.out.below HW1.out (Nat.le_refl _)) (H4.out.below HW1.out (Nat.le_refl _))).mono ?_
      rintro e w2 ⟨⟨q, hq⟩, b, rfl, hb2⟩
      have HW2 := hid (HW1.out.trans ((drewN_below hq).mono HW1.out.size)); have HB2 := hid hb2
      clear hq hb2
      go_wp2
      go_ret
      exact ⟨b, rfl, HW2.out, fun h => ⟨HS.out, HB1.out.1 (by simp), HB2.out.1 h⟩, fun h => HB2.out.2 h.2.2⟩
  · have hse := beq_bool_false hs
    have HS := hid hs
    clear hs
    go_enter Tryz.func9, Tryz.ntmps9
    go_wp2
    go_ret
    exact ⟨false, rfl, below_alloc (below_alloc (Below.refl _ _) _) _, (fun h => by cases h), fun h => absurd h.1 HS.out⟩
theorem rSame_n {L L' w sa xa na ca fa ya ma da ga a sb xb nb cb fb yb mb db gb b} (ha : Rn L w sa xa na ca fa ya ma da ga a) (hb : Rn L' w sb xb nb cb fb yb mb db gb b) (h1 : L ≤ 4096) (h2 : L' ≤ 4096) :
    Calls Tryz.prog 9 #[.agg #[.bool sa, .slice xa na ca, .slice ya ma da], .agg #[.bool sb, .slice xb nb cb, .slice yb mb db]] w fun e w' => e = .returned (.bool (decide (a = b))) ∧ Below w.heap.size w w' := by
  have l1 := ha.ln; have l2 := ha.ld; have l3 := hb.ln; have l4 := hb.ld
  refine (rSame_c sa xa ya na ca ma da fa ga sb xb yb nb cb mb db fb gb w ha.num.rd ha.den.rd hb.num.rd hb.den.rd (by omega) (by omega) (by omega) (by omega)).mono ?_
  rintro e w' ⟨c, rfl, h3, h4⟩
  refine ⟨?_, h3⟩
  have h5 := h4.trans (ha.inj hb)
  cases c
  · have : ¬ (a = b) := fun h => by have := h5.2 h; cases this
    simp [this]
  · simp [h5.1 rfl]
def lg (n m k : Nat) : Bool := decide (n ≤ k) && decide (m ≤ k)
theorem rLight_c (s : Bool) (x y : Option Addr) (n c m d : Nat) (w : World) (hn : n ≤ 9223372036854775807) (hm : m ≤ 9223372036854775807) :
    Calls Tryz.prog 13 #[.agg #[.bool s, .slice x n c, .slice y m d], .int .i64 20] w fun e w' => e = .returned (.bool (lg n m 20)) ∧ Below w.heap.size w w' := by
  by_cases h1 : n ≤ 20
  · have d1 : decide ((n : Int) ≤ 20) = true := by simp; omega
    by_cases h2 : m ≤ 20
    · have d2 : decide ((m : Int) ≤ 20) = true := by simp; omega
      rw [show lg n m 20 = true by simp [lg, h1, h2]]
      go_enter Tryz.func13, Tryz.ntmps13
      go_wp2
      go_ret
      exact ⟨rfl, below_alloc (Below.refl _ _) _⟩
    · have d2 : decide ((m : Int) ≤ 20) = false := by simp; omega
      rw [show lg n m 20 = false by simp [lg, h2]]
      go_enter Tryz.func13, Tryz.ntmps13
      go_wp2
      go_ret
      exact ⟨rfl, below_alloc (Below.refl _ _) _⟩
  · have d1 : decide ((n : Int) ≤ 20) = false := by simp; omega
    rw [show lg n m 20 = false by simp [lg, h1]]
    go_enter Tryz.func13, Tryz.ntmps13
    go_wp2
    go_ret
    exact ⟨rfl, below_alloc (Below.refl _ _) _⟩
end Go.Proofs.YtlpmfmphglgocaaGreatDoor
namespace Go.Proofs.YtlpmfmphglgocaaGreatDoor
open Go.RowKit

/-- A whole number of the reference: sign and digits. -/
structure Zn (w : World) (s : Bool) (x : Option Addr) (n : Nat) (d : Nat → Int) (v : Int) : Prop where
  dn : Dn w x n d v.natAbs
  sgn : v = sg s v.natAbs
  pos : s = true → 0 < n
theorem Zn.below {w w' s x n d v} (h : Zn w s x n d v) (hb : Below w.heap.size w w') : Zn w' s x n d v := ⟨h.dn.below hb, h.sgn, h.pos⟩
theorem Zn.alloc {w s x n d v} (h : Zn w s x n d v) (o : Obj) : Zn (w.alloc o) s x n d v := ⟨h.dn.alloc o, h.sgn, h.pos⟩
theorem Zn.next {w w' s x n d v} {o : Obj} (h : Zn w s x n d v) (hb : Below (w.alloc o).heap.size (w.alloc o) w') : Zn w' s x n d v := (h.alloc o).below hb
theorem Zn.of {w z k d V} {r s : Bool} (h : Dn w z k d V) (hr : r = (s && decide (0 < k))) : Zn w r z k d (sg s V) := by
  refine ⟨by rw [sg_natAbs]; exact h, ?_, fun h => by rw [hr] at h; simp at h; exact h.2⟩
  rw [sg_natAbs]
  rcases Nat.eq_zero_or_pos k with h0 | h0
  · subst h0
    have := h.zero
    subst this
    cases s <;> cases r <;> rfl
  · have : r = s := by rw [hr]; simp [h0]
    rw [this]
end Go.Proofs.YtlpmfmphglgocaaGreatDoor
namespace Go.Proofs.YtlpmfmphglgocaaGreatDoor
open Go.RowKit

/-- The error of two numbers. -/
def e2 (s : Bool) (f : Nat → Int) (n : Nat) (t : Bool) (h : Nat → Int) (m : Nat) : Int := if wfB s f n && wfB t h m then 0 else 3
end Go.Proofs.YtlpmfmphglgocaaGreatDoor
namespace Go.Proofs.YtlpmfmphglgocaaGreatDoor
open Go.RowKit

def kv (kind : Nat) (u v : Int) : Int := if kind = 0 then u + v else if kind = 1 then u - v else u * v
end Go.Proofs.YtlpmfmphglgocaaGreatDoor
namespace Go.Proofs.YtlpmfmphglgocaaGreatDoor
open Go.RowKit

theorem Dn.one_iff {w x k d V} (h : Dn w x k d V) : V = 1 ↔ k = 1 ∧ d 0 = 1 := by
  constructor
  · intro hV
    have h1 : Dg (fun _ => (1 : Int)) 1 := fun j _ => ⟨show (0 : Int) ≤ 1 by decide, show (1 : Int) < 4294967296 by decide⟩
    have h2 : vd (fun _ => (1 : Int)) 1 = 1 := by decide
    obtain ⟨e1, e2⟩ := vd_inj h.dg h1 h.fm (.inr (by decide)) (by rw [h.val, hV, h2]; rfl)
    exact ⟨e1, e2 0 (by omega)⟩
  · rintro ⟨rfl, h0⟩
    have := h.val
    simp [vd, pd, h0] at this
    omega

end Go.Proofs.YtlpmfmphglgocaaGreatDoor
namespace Go.Proofs.YtlpmfmphglgocaaGreatDoor
open Go.RowKit

end Go.Proofs.YtlpmfmphglgocaaGreatDoor
namespace Go.Proofs.YtlpmfmphglgocaaGreatDoor
open Go.RowKit

/-- A rational number of the reference. -/
structure Qn (w : World) (s : Bool) (x : Option Addr) (n : Nat) (d : Nat → Int) (y : Option Addr) (m : Nat) (g : Nat → Int) (q : Rat) : Prop where
  num : Zn w s x n d q.num
  den : Dn w y m g q.den
theorem Qn.below {w w' s x n d y m g q} (h : Qn w s x n d y m g q) (hb : Below w.heap.size w w') : Qn w' s x n d y m g q := ⟨h.num.below hb, h.den.below hb⟩
theorem Qn.alloc {w s x n d y m g q} (h : Qn w s x n d y m g q) (o : Obj) : Qn (w.alloc o) s x n d y m g q := ⟨h.num.alloc o, h.den.alloc o⟩
theorem kQd {w s x n d y m g q} (h : Qn w s x n d y m g q) : Qn w.drew s x n d y m g q := ⟨⟨h.num.dn.drew, h.num.sgn, h.num.pos⟩, h.den.drew⟩
theorem Ob.zn {w B u0 u1 u2 s x n d v} (h : Ob w B) (hx : Zn w s x n d v) : Zn (((w.setCell ⟨B, 0, none⟩ u0).setCell ⟨B, 1, none⟩ u1).setCell ⟨B, 2, none⟩ u2) s x n d v := ⟨h.dn hx.dn, hx.sgn, hx.pos⟩
theorem Ob.qn {w B u0 u1 u2 s x n d y m g q} (h : Ob w B) (hx : Qn w s x n d y m g q) : Qn (((w.setCell ⟨B, 0, none⟩ u0).setCell ⟨B, 1, none⟩ u1).setCell ⟨B, 2, none⟩ u2) s x n d y m g q := ⟨h.zn hx.num, h.dn hx.den⟩
/-- What a call answers: a rational number of the reference. -/
def QAns (L : Nat) (w w' : World) (e : Ending) (q : Rat) : Prop := ∃ s x n c d y m c' g, e = .returned (.agg #[.bool s, .slice x n c, .slice y m c']) ∧ Below w.heap.size w w' ∧ n ≤ L ∧ m ≤ L ∧ Qn w' s x n d y m g q
theorem qbox1 {w : World} (a0 a1 a2 : Value) (t u : TypeId) :
    Bx3 ((w.alloc (.cells #[a0, a1, a2] t)).alloc (.cells #[.bool false, .slice none 0 0, .slice none 0 0] u)) w.heap.size a0 a1 a2 ∧ Ob ((w.alloc (.cells #[a0, a1, a2] t)).alloc (.cells #[.bool false, .slice none 0 0, .slice none 0 0] u)) (w.heap.size + 1) ∧ Below w.heap.size w ((w.alloc (.cells #[a0, a1, a2] t)).alloc (.cells #[.bool false, .slice none 0 0, .slice none 0 0] u)) := by
  have h3 := ob_new (w.alloc (.cells #[a0, a1, a2] t)) u
  rw [size_alloc1] at h3
  exact ⟨(bx3_at w a0 a1 a2 t).below (below_alloc (Below.refl _ _) _), h3, below_alloc (below_alloc (Below.refl w.heap.size w) _) _⟩

end Go.Proofs.YtlpmfmphglgocaaGreatDoor
namespace Go.Proofs.YtlpmfmphglgocaaGreatDoor
open Go.RowKit

end Go.Proofs.YtlpmfmphglgocaaGreatDoor
namespace Go.Proofs.YtlpmfmphglgocaaGreatDoor
open Go.RowKit

/-- How two numbers lie to one another. -/
def ROrd (c : Int) (a b : Rat) : Prop := c = -1 ∧ a < b ∨ c = 0 ∧ a = b ∨ c = 1 ∧ b < a
theorem rord_of {c : Int} {a b : Rat} (h : Ord c (a.num * b.den) (b.num * a.den)) : ROrd c a b := by
  rcases h with ⟨h1, h2⟩ | ⟨h1, h2⟩ | ⟨h1, h2⟩
  · exact .inl ⟨h1, (Rat.lt_iff a b).2 h2⟩
  · refine .inr (.inl ⟨h1, Rat.le_antisymm ((Rat.le_iff a b).2 ?_) ((Rat.le_iff b a).2 ?_)⟩)
    · rw [h2]; exact Int.le_refl _
    · rw [h2]; exact Int.le_refl _
  · exact .inr (.inr ⟨h1, (Rat.lt_iff b a).2 h2⟩)
theorem prod_of {L : Nat} {w1 wx W5 w5 : World} {b4 : Nat} {r1 : Bool} {p1 : Option Addr} {k1 c1 n m : Nat} {q : Nat → Int} {v : Int} (hn : n ≤ L) (hm : m ≤ L) (hW : Below w1.heap.size w1 W5) (hD : WRes (n + m) W5 w5 r1 p1 k1 c1 q ∧ wv r1 q k1 = v) (hT : Turned w1.heap.size W5.heap.size w5 wx) (hb : Bx wx b4 r1 p1 k1 c1) : FlAt (2 * L) w1 wx b4 r1 p1 k1 c1 v := by
  have hQ := hD.1.res.turned hW hT
  have := hQ.le
  exact ⟨hb, hQ.bel, ⟨q, hQ.rd, hQ.lm, hD.1.wfB, hQ.ncap, hQ.nil', hD.2⟩, by omega⟩

set_option maxRecDepth 100000 in
set_option maxHeartbeats 8000000 in
theorem rCmp_n {L : Nat} {w : World} {sa : Bool} {xa : Option Addr} {na ca : Nat} {fa : Nat → Int} {ya : Option Addr} {ma da : Nat} {ga : Nat → Int} {a : Rat} {sb : Bool} {xb : Option Addr} {nb cb : Nat} {fb : Nat → Int} {yb : Option Addr} {mb db : Nat} {gb : Nat → Int} {b : Rat} (ha : Rn L w sa xa na ca fa ya ma da ga a) (hb : Rn L w sb xb nb cb fb yb mb db gb b) (hL : L ≤ 1000) :
    Calls Tryz.prog 78 #[.agg #[.bool sa, .slice xa na ca, .slice ya ma da], .agg #[.bool sb, .slice xb nb cb, .slice yb mb db]] w fun e w' => ∃ c, e = .returned (.tuple #[.int .i64 c, .int .i64 0]) ∧ Below w.heap.size w w' ∧ ROrd c a b := by
  have HA0 := hid ha; have HB0 := hid hb
  have b1 := ha.ln; have b2 := ha.ld; have b3 := hb.ln; have b4 := hb.ld
  clear ha hb
  go_enter Tryz.func78, Tryz.ntmps78
  go_wp2_with fail
  refine (rForm_n ((HA0.out.alloc _).alloc _) (by omega)).mono ?_
  rintro e w0 ⟨rfl, hbel⟩
  obtain ⟨ba, bb, hw⟩ := two_new hbel
  have BA0 := hid ba; have BB0 := hid bb; have HW0 := hid hw; have RA0 := hid (HA0.out.below hw); have RB0 := hid (HB0.out.below hw)
  clear hbel ba bb hw HA0 HB0
  obtain ⟨zb, y0, y1, y2⟩ := BB0.out
  go_wp2_with fail
  refine (rForm_n RB0.out (by omega)).mono ?_
  rintro e w1 ⟨rfl, hb⟩
  clear zb y0 y1 y2
  have BA1 := hid (BA0.out.below hb); have BB1 := hid (BB0.out.below hb); have RA1 := hid (RA0.out.below hb); have RB1 := hid (RB0.out.below hb); have HW1 := hid (HW0.out.trans (hb.mono HW0.out.size))
  clear BA0 BB0 RA0 RB0 HW0 hb
  obtain ⟨za, x0, x1, x2⟩ := BA1.out
  obtain ⟨zb, y0, y1, y2⟩ := BB1.out
  have C1 : Hid (∀ W, Below w1.heap.size w1 W → Calls Tryz.prog 58 #[.agg #[.bool sa, .slice xa na ca, .slice ya ma da]] W fun e w' => e = .returned (.agg #[.bool sa, .slice xa na ca]) ∧ Below W.heap.size W w') := fun W _ => numer_c sa xa ya na ca ma da W
  have C2 : Hid (∀ W, Below w1.heap.size w1 W → Calls Tryz.prog 59 #[.agg #[.bool sb, .slice xb nb cb, .slice yb mb db]] W fun e w' => e = .returned (.agg #[.bool false, .slice yb mb db]) ∧ Below W.heap.size W w') := fun W _ => denom_c sb xb yb nb cb mb db W
  have C3 : Hid (∀ W, Below w1.heap.size w1 W → Calls Tryz.prog 87 #[.agg #[.bool sa, .slice xa na ca], .agg #[.bool false, .slice yb mb db]] W fun e w' => ∃ r1 p1 k1 c1 q, e = .returned (.tuple #[.agg #[.bool r1, .slice p1 k1 c1], .int .i64 0]) ∧ Below W.heap.size W w' ∧ Hid (WRes (na + mb) W w' r1 p1 k1 c1 q ∧ wv r1 q k1 = a.num * b.den)) := fun W hW => by
    have h1 := (RA1.out.below hW).num; have h2 := (RB1.out.below hW).den
    refine (wMul_c sa false xa yb na mb ca db fa gb W (by omega) (by omega) h1.cap.1 h2.cap.1 h1.cap.2 h2.cap.2 h1.rd h2.rd h1.lm h2.lm).mono ?_
    rintro e w' ⟨r, z, k, e', h, er, rfl, hres, hans⟩
    obtain ⟨rfl, hv⟩ := hans.ok ⟨h1.wf, h2.wf⟩
    exact ⟨r, z, k, e', h, rfl, hres.res.bel, hres, by rw [hv, h1.val, h2.val]⟩
  go_upto_region 3 with fail
  go_cut [6, 7] from 18 to 25 (fun u t wx => ∃ (wy : World) (b4 : Nat) (s : Bool) (z : Option Addr) (k c : Nat), wy = wx ∧ u = .pointer (some ⟨b4, 0, none⟩) ∧ t = .int .i64 0 ∧ FlAt (2 * L) w1 wy b4 s z k c (a.num * b.den))
  case first =>
    go_region_held3 (fun w' => w'.cell? ⟨w.heap.size, 0, none⟩ = some (.bool sa) ∧ w'.cell? ⟨w.heap.size, 1, none⟩ = some (.slice xa na ca) ∧ w'.cell? ⟨w.heap.size, 2, none⟩ = some (.slice ya ma da) ∧ w'.cell? ⟨w.heap.size + 1, 0, none⟩ = some (.bool sb) ∧ w'.cell? ⟨w.heap.size + 1, 1, none⟩ = some (.slice xb nb cb) ∧ w'.cell? ⟨w.heap.size + 1, 2, none⟩ = some (.slice yb mb db))
      (refine ⟨?_, ?_, ?_, ?_, ?_, ?_⟩ <;> repeat (with_reducible first | assumption | refine kCd ?_ | refine kCa ?_ | refine kCs (by simp only [ne_eq]; omega) ?_ | refine kCb (by assumption) ?_))
      (first
        | (go_at_call 58; with_reducible refine (C1.out _ (by repeat (with_reducible first | assumption | exact Below.refl _ _ | refine Below.drew ?_ | refine kBa ?_ | refine kBb (by assumption) ?_))).mono ?_; rintro e v3 ⟨rfl, hb3⟩; have hza := hb3.size; (try simp at hza); obtain ⟨hc3, hf3⟩ := bcell hb3; (try have q100 : w1.heap.size < v3.heap.size := by omega))
        | (go_at_call 59; with_reducible refine (C2.out _ (by repeat (with_reducible first | assumption | exact Below.refl _ _ | refine Below.drew ?_ | refine kBa ?_ | refine kBb (by assumption) ?_))).mono ?_; rintro e v4 ⟨rfl, hb4⟩; have hzb := hb4.size; (try simp at hzb); obtain ⟨hc4, hf4⟩ := bcell hb4; (try have q100 : w1.heap.size < v4.heap.size := by omega); (try have q102 : v3.heap.size < v4.heap.size := by omega))
        | (go_at_call 87; with_reducible refine (C3.out _ (by repeat (with_reducible first | assumption | exact Below.refl _ _ | refine Below.drew ?_ | refine kBa ?_ | refine kBb (by assumption) ?_))).mono ?_; rintro e v5 ⟨r1, p1, k1, c1, q, rfl, hb5, HD⟩; have hzc := hb5.size; (try simp at hzc); obtain ⟨hc5, hf5⟩ := bcell hb5; (try have q100 : w1.heap.size < v5.heap.size := by omega); (try have q102 : v3.heap.size < v5.heap.size := by omega); (try have q104 : v4.heap.size < v5.heap.size := by omega)))
    all_goals
      go_wp2_with fail
      go_meet
      refine ⟨_, _, r1, p1, k1, c1, rfl, rfl, rfl, prod_of (by assumption) (by assumption) (by repeat (with_reducible first | assumption | exact Below.refl _ _ | refine Below.drew ?_ | refine kBa ?_ | refine kBb (by assumption) ?_)) HD.out (by repeat (with_reducible first | exact Turned.refl _ _ _ | refine Turned.drew ?_ | refine Turned.alloc ?_ _ | refine Turned.set ?_ (by first | omega | (simp; done) | (simp; omega)) (by first | omega | (simp; done) | (simp; omega)) _)) ⟨(by first | omega | (simp; done) | (simp; omega)), (by repeat (with_reducible first | assumption | exact kN0 | exact kN1 | (refine kM0 ?_; (simp <;> fail)) | (refine kM1 ?_; (simp <;> fail)) | exact kI0 kN0 | exact kI0 kN1 | (refine kI0 (kM0 ?_); (simp <;> fail)) | (refine kI0 (kM1 ?_); (simp <;> fail)) | refine kCd ?_ | refine kCe ?_ | refine kCo (by decide) ?_ | refine kCs (by simp only [ne_eq]; omega) ?_ | refine kCa ?_ | refine kCb (by assumption) ?_ | refine kId ?_ | refine kIs ?_ | refine kIa ?_ | refine kIb (by assumption) ?_)), (by repeat (with_reducible first | assumption | exact kN0 | exact kN1 | (refine kM0 ?_; (simp <;> fail)) | (refine kM1 ?_; (simp <;> fail)) | exact kI0 kN0 | exact kI0 kN1 | (refine kI0 (kM0 ?_); (simp <;> fail)) | (refine kI0 (kM1 ?_); (simp <;> fail)) | refine kCd ?_ | refine kCe ?_ | refine kCo (by decide) ?_ | refine kCs (by simp only [ne_eq]; omega) ?_ | refine kCa ?_ | refine kCb (by assumption) ?_ | refine kId ?_ | refine kIs ?_ | refine kIa ?_ | refine kIb (by assumption) ?_))⟩⟩
  case rest =>
    obtain ⟨w2, bX, sX, zX, kX, cX, rfl, rfl, rfl, hbx, hb, ⟨fX, hwn⟩, hleX⟩ := hcut
    have BX2 := hid hbx; have WX2 := hid hwn
    clear hbx hwn za zb x0 x1 x2 y0 y1 y2 C1 C2 C3
    have BA2 := hid (BA1.out.below hb); have BB2 := hid (BB1.out.below hb); have RA2 := hid (RA1.out.below hb); have RB2 := hid (RB1.out.below hb); have HW2 := hid (HW1.out.trans (hb.mono HW1.out.size))
    clear BA1 BB1 RA1 RB1 HW1 hb
    obtain ⟨za, x0, x1, x2⟩ := BA2.out
    obtain ⟨zb, y0, y1, y2⟩ := BB2.out
    have C1 : Hid (∀ W, Below w2.heap.size w2 W → Calls Tryz.prog 58 #[.agg #[.bool sb, .slice xb nb cb, .slice yb mb db]] W fun e w' => e = .returned (.agg #[.bool sb, .slice xb nb cb]) ∧ Below W.heap.size W w') := fun W _ => numer_c sb xb yb nb cb mb db W
    have C2 : Hid (∀ W, Below w2.heap.size w2 W → Calls Tryz.prog 59 #[.agg #[.bool sa, .slice xa na ca, .slice ya ma da]] W fun e w' => e = .returned (.agg #[.bool false, .slice ya ma da]) ∧ Below W.heap.size W w') := fun W _ => denom_c sa xa ya na ca ma da W
    have C3 : Hid (∀ W, Below w2.heap.size w2 W → Calls Tryz.prog 87 #[.agg #[.bool sb, .slice xb nb cb], .agg #[.bool false, .slice ya ma da]] W fun e w' => ∃ r1 p1 k1 c1 q, e = .returned (.tuple #[.agg #[.bool r1, .slice p1 k1 c1], .int .i64 0]) ∧ Below W.heap.size W w' ∧ Hid (WRes (nb + ma) W w' r1 p1 k1 c1 q ∧ wv r1 q k1 = b.num * a.den)) := fun W hW => by
      have h1 := (RB2.out.below hW).num; have h2 := (RA2.out.below hW).den
      refine (wMul_c sb false xb ya nb ma cb da fb ga W (by omega) (by omega) h1.cap.1 h2.cap.1 h1.cap.2 h2.cap.2 h1.rd h2.rd h1.lm h2.lm).mono ?_
      rintro e w' ⟨r, z, k, e', h, er, rfl, hres, hans⟩
      obtain ⟨rfl, hv⟩ := hans.ok ⟨h1.wf, h2.wf⟩
      exact ⟨r, z, k, e', h, rfl, hres.res.bel, hres, by rw [hv, h1.val, h2.val]⟩
    go_upto_region 4 with fail
    go_cut [8, 9] from 26 to 33 (fun u t wx => ∃ (wy : World) (b4 : Nat) (s : Bool) (z : Option Addr) (k c : Nat), wy = wx ∧ u = .pointer (some ⟨b4, 0, none⟩) ∧ t = .int .i64 0 ∧ FlAt (2 * L) w2 wy b4 s z k c (b.num * a.den))
    case first =>
      go_region_held3 (fun w' => w'.cell? ⟨w.heap.size, 0, none⟩ = some (.bool sa) ∧ w'.cell? ⟨w.heap.size, 1, none⟩ = some (.slice xa na ca) ∧ w'.cell? ⟨w.heap.size, 2, none⟩ = some (.slice ya ma da) ∧ w'.cell? ⟨w.heap.size + 1, 0, none⟩ = some (.bool sb) ∧ w'.cell? ⟨w.heap.size + 1, 1, none⟩ = some (.slice xb nb cb) ∧ w'.cell? ⟨w.heap.size + 1, 2, none⟩ = some (.slice yb mb db))
        (refine ⟨?_, ?_, ?_, ?_, ?_, ?_⟩ <;> repeat (with_reducible first | assumption | refine kCd ?_ | refine kCa ?_ | refine kCs (by simp only [ne_eq]; omega) ?_ | refine kCb (by assumption) ?_))
        (first
          | (go_at_call 58; with_reducible refine (C1.out _ (by repeat (with_reducible first | assumption | exact Below.refl _ _ | refine Below.drew ?_ | refine kBa ?_ | refine kBb (by assumption) ?_))).mono ?_; rintro e v3 ⟨rfl, hb3⟩; have hza := hb3.size; (try simp at hza); obtain ⟨hc3, hf3⟩ := bcell hb3; (try have q100 : w2.heap.size < v3.heap.size := by omega))
          | (go_at_call 59; with_reducible refine (C2.out _ (by repeat (with_reducible first | assumption | exact Below.refl _ _ | refine Below.drew ?_ | refine kBa ?_ | refine kBb (by assumption) ?_))).mono ?_; rintro e v4 ⟨rfl, hb4⟩; have hzb := hb4.size; (try simp at hzb); obtain ⟨hc4, hf4⟩ := bcell hb4; (try have q100 : w2.heap.size < v4.heap.size := by omega); (try have q102 : v3.heap.size < v4.heap.size := by omega))
          | (go_at_call 87; with_reducible refine (C3.out _ (by repeat (with_reducible first | assumption | exact Below.refl _ _ | refine Below.drew ?_ | refine kBa ?_ | refine kBb (by assumption) ?_))).mono ?_; rintro e v5 ⟨r1, p1, k1, c1, q, rfl, hb5, HD⟩; have hzc := hb5.size; (try simp at hzc); obtain ⟨hc5, hf5⟩ := bcell hb5; (try have q100 : w2.heap.size < v5.heap.size := by omega); (try have q102 : v3.heap.size < v5.heap.size := by omega); (try have q104 : v4.heap.size < v5.heap.size := by omega)))
      all_goals
        go_wp2_with fail
        go_meet
        refine ⟨_, _, r1, p1, k1, c1, rfl, rfl, rfl, prod_of (by assumption) (by assumption) (by repeat (with_reducible first | assumption | exact Below.refl _ _ | refine Below.drew ?_ | refine kBa ?_ | refine kBb (by assumption) ?_)) HD.out (by repeat (with_reducible first | exact Turned.refl _ _ _ | refine Turned.drew ?_ | refine Turned.alloc ?_ _ | refine Turned.set ?_ (by first | omega | (simp; done) | (simp; omega)) (by first | omega | (simp; done) | (simp; omega)) _)) ⟨(by first | omega | (simp; done) | (simp; omega)), (by repeat (with_reducible first | assumption | exact kN0 | exact kN1 | (refine kM0 ?_; (simp <;> fail)) | (refine kM1 ?_; (simp <;> fail)) | exact kI0 kN0 | exact kI0 kN1 | (refine kI0 (kM0 ?_); (simp <;> fail)) | (refine kI0 (kM1 ?_); (simp <;> fail)) | refine kCd ?_ | refine kCe ?_ | refine kCo (by decide) ?_ | refine kCs (by simp only [ne_eq]; omega) ?_ | refine kCa ?_ | refine kCb (by assumption) ?_ | refine kId ?_ | refine kIs ?_ | refine kIa ?_ | refine kIb (by assumption) ?_)), (by repeat (with_reducible first | assumption | exact kN0 | exact kN1 | (refine kM0 ?_; (simp <;> fail)) | (refine kM1 ?_; (simp <;> fail)) | exact kI0 kN0 | exact kI0 kN1 | (refine kI0 (kM0 ?_); (simp <;> fail)) | (refine kI0 (kM1 ?_); (simp <;> fail)) | refine kCd ?_ | refine kCe ?_ | refine kCo (by decide) ?_ | refine kCs (by simp only [ne_eq]; omega) ?_ | refine kCa ?_ | refine kCb (by assumption) ?_ | refine kId ?_ | refine kIs ?_ | refine kIa ?_ | refine kIb (by assumption) ?_))⟩⟩
    case rest =>
      obtain ⟨w3, bY, sY, zY, kY, cY, rfl, rfl, rfl, hby, hb, ⟨fY, hwy⟩, hleY⟩ := hcut
      have BY3 := hid hby; have WY3 := hid hwy
      clear hby hwy za zb x0 x1 x2 y0 y1 y2 C1 C2 C3
      have BX3 := hid (BX2.out.below hb); have WX3 := hid (WX2.out.below hb); have HW3 := hid (HW2.out.trans (hb.mono HW2.out.size))
      clear BX2 WX2 HW2 hb
      obtain ⟨zx, x0, x1⟩ := BX3.out
      obtain ⟨zy, y0, y1⟩ := BY3.out
      go_wp2_with fail
      refine (wCmp_c sX sY zX zY kX kY cX cY fX fY _ (by omega) (by omega) WX3.out.rd WY3.out.rd WX3.out.lm WY3.out.lm).mono ?_
      rintro e w4 ⟨cc, er, rfl, hb, hcm⟩
      have hcc : er = 0 ∧ ROrd cc a b := by
        rcases hcm with ⟨_, h1, h2⟩ | ⟨h1, _⟩
        · rw [WX3.out.val, WY3.out.val] at h2
          exact ⟨h1, rord_of h2⟩
        · exact absurd ⟨WX3.out.wf, WY3.out.wf⟩ h1
      obtain ⟨rfl, hord⟩ := hcc
      have HO := hid hord; have HW4 := hid (HW3.out.trans (hb.mono HW3.out.size))
      clear hcm hord hb
      go_wp2
      go_ret2
      exact ⟨cc, rfl, HW4.out, HO.out⟩
end Go.Proofs.YtlpmfmphglgocaaGreatDoor
namespace Go.Proofs.YtlpmfmphglgocaaGreatDoor
open Go.RowKit

end Go.Proofs.YtlpmfmphglgocaaGreatDoor
namespace Go.Proofs.YtlpmfmphglgocaaGreatDoor
open Go.RowKit

end Go.Proofs.YtlpmfmphglgocaaGreatDoor
namespace Go.Proofs.YtlpmfmphglgocaaGreatDoor
open Go.RowKit

/-- To, on a rational number of the reference. -/
theorem qToR_c {w : World} {s : Bool} {x : Option Addr} {n c : Nat} {d : Nat → Int} {y : Option Addr} {m e : Nat} {g : Nat → Int} {q : Rat} (h : Qn w s x n d y m g q) (hn : n ≤ 131072) (hm : m ≤ 131072) :
    Calls Tryz.prog 75 #[.agg #[.bool s, .slice x n c, .slice y m e]] w fun en w' => ∃ z k c' f z2 k2 c2 f2, en = .returned (.agg #[.bool s, .slice z k c', .slice z2 k2 c2]) ∧ Below w.heap.size w w' ∧ Hid (Rn (n + m) w' s z k c' f z2 k2 c2 f2 q) := by
  refine (qTo_c h.num.dn h.den hn hm).mono ?_
  rintro en w' ⟨z, k, c', f, z2, k2, c2, f2, rfl, h2, h3, h4, h5, h6, _, _⟩
  refine ⟨z, k, c', f, z2, k2, c2, f2, rfl, h2, ⟨h5.rd, h5.lm, (wfB_iff _ _ _).2 ⟨fm_of_wfB h5.wf, fun hs => ?_⟩, h5.cap, h5.nil, ?_⟩, h6, by omega, by omega⟩
  · have h0 := h.num.dn.pos' (h.num.pos hs)
    rcases Nat.eq_zero_or_pos k with hk | hk
    · subst hk
      have hv := h5.val
      rw [wv_false] at hv
      have : (0 : Int) = q.num.natAbs := hv
      omega
    · exact hk
  · have hv := h5.val
    rw [wv_false] at hv
    have hs := h.num.sgn
    cases s
    · rw [wv_false, hv]; exact hs.symm
    · rw [wv_true, hv]; exact hs.symm
end Go.Proofs.YtlpmfmphglgocaaGreatDoor
namespace Go.Proofs.YtlpmfmphglgocaaGreatDoor
open Go.RowKit

end Go.Proofs.YtlpmfmphglgocaaGreatDoor
namespace Go.Proofs.YtlpmfmphglgocaaGreatDoor
open Go.RowKit

theorem zIntE_c {w : World} {z : Int} (h0 : -9223372036854775808 ≤ z) (h1 : z ≤ 9223372036854775807) :
    Calls Tryz.prog 54 #[.int .i64 z] w fun e w' => ∃ s x n c d, e = .returned (.agg #[.bool s, .slice x n c]) ∧ Below w.heap.size w w' ∧ Hid (n ≤ 2 ∧ Zn w' s x n d z) := by
  refine (zInt_c z w h0 h1).mono ?_
  rintro e w' ⟨s, x, n, c, d, rfl, h⟩
  have h2 := vd_nonneg h.dg
  have hv := h.val
  cases s
  · have hv' : vd d n = z := hv
    exact ⟨false, x, n, c, d, rfl, h.bel, h.le, ⟨h.rd, h.dg, h.fm, by omega⟩, by show z = (z.natAbs : Int); omega, h.sgn⟩
  · have hv' : - vd d n = z := hv
    exact ⟨true, x, n, c, d, rfl, h.bel, h.le, ⟨h.rd, h.dg, h.fm, by omega⟩, by show z = -(z.natAbs : Int); omega, h.sgn⟩

set_option maxRecDepth 100000 in
set_option maxHeartbeats 4000000 in
theorem qInt_c {w : World} {z : Int} (h0 : -9223372036854775808 ≤ z) (h1 : z ≤ 9223372036854775807) :
    Calls Tryz.prog 76 #[.int .i64 z] w fun e w' => QAns 2 w w' e (z : Rat) := by
  have h2 := ob_new w 71
  have h3 := below_alloc (Below.refl w.heap.size w) (.cells #[.bool false, .slice none 0 0, .slice none 0 0] 71)
  go_enter Tryz.func76, Tryz.ntmps76
  go_wp2_with fail
  generalize w.alloc (.cells #[.bool false, .slice none 0 0, .slice none 0 0] 71) = w1 at *
  have OB := hid h2; have HW := hid h3
  clear h2 h3
  refine (zIntE_c h0 h1).mono ?_
  rintro e w2 ⟨s2, x2, n2, c2, d2, rfl, hb, H2⟩
  have HB2 := hid hb
  clear hb
  go_wp2_with fail
  refine (dWord_c (V := 1) (by decide)).mono ?_
  rintro e w3 ⟨z3, k3, c3, d3, rfl, hb, H3⟩
  have HB3 := hid (HB2.out.trans (hb.mono HB2.out.size)); have Z3 := hid (H2.out.2.below hb)
  have hk3 := H3.out.1; have hn2 := H2.out.1
  clear hb
  obtain ⟨hz, z0, z1, z2, zf⟩ := OB.out.below HB3.out
  go_wp2
  refine bodyPost_ret (v := .agg #[.bool s2, .slice x2 n2 c2, .slice z3 k3 c3]) (by simp [results, Tryz.results76, go_sem, z0, z1, z2]) rfl ⟨s2, x2, n2, c2, d2, z3, k3, c3, d3, rfl, below_st (HW.out.trans (HB3.out.mono HW.out.size)) (by omega), by omega, by omega, (OB.out.below HB3.out).qn ⟨?_, ?_⟩⟩
  · rw [Rat.num_intCast]; exact Z3.out
  · rw [Rat.den_intCast]; exact H3.out.2

set_option maxRecDepth 100000 in
set_option maxHeartbeats 4000000 in
theorem docOfQ_c {w : World} {z : Int} (h0 : -9223372036854775808 ≤ z) (h1 : z ≤ 9223372036854775807) :
    Calls Tryz.prog 35 #[.int .i64 z] w fun e w' => RatAns 4 w w' e (z : Rat) := by
  have h2 := ob_new w 24
  have h3 := below_alloc (Below.refl w.heap.size w) (.cells #[.bool false, .slice none 0 0, .slice none 0 0] 24)
  go_enter Tryz.func35, Tryz.ntmps35
  go_wp2_with fail
  generalize w.alloc (.cells #[.bool false, .slice none 0 0, .slice none 0 0] 24) = w1 at *
  have OB := hid h2; have HW := hid h3
  clear h2 h3
  refine (qInt_c h0 h1).mono ?_
  rintro e w2 ⟨s2, x2, n2, c2, d2, y2, m2, e2, g2, rfl, hb, hl1, hl2, hq⟩
  have HB2 := hid hb; have HQ := hid hq
  clear hb hq
  go_wp2_with fail
  refine (qToR_c HQ.out (by omega) (by omega)).mono ?_
  rintro e w3 ⟨z3, k3, c3, f3, y3, m3, e3, g3, rfl, hb, R3⟩
  have HB3 := hid (HB2.out.trans (hb.mono HB2.out.size))
  clear hb
  obtain ⟨hz, z0, z1, z2, zf⟩ := OB.out.below HB3.out
  go_wp2
  exact bodyPost_ret (v := .agg #[.bool s2, .slice z3 k3 c3, .slice y3 m3 e3]) (by simp [results, Tryz.results35, go_sem, z0, z1, z2]) rfl ⟨s2, z3, k3, c3, f3, y3, m3, e3, g3, rfl, below_st (HW.out.trans (HB3.out.mono HW.out.size)) (by omega), (OB.out.below HB3.out).rn (R3.out.mono (by omega))⟩
end Go.Proofs.YtlpmfmphglgocaaGreatDoor
namespace Go.Proofs.YtlpmfmphglgocaaGreatDoor
open Go.RowKit

theorem size_st3 (w : World) (B : Nat) (u0 u1 u2 : Value) : (((w.setCell ⟨B, 0, none⟩ u0).setCell ⟨B, 1, none⟩ u1).setCell ⟨B, 2, none⟩ u2).heap.size = w.heap.size := by simp [World.setCell]
theorem Ob.put {w B} (h : Ob w B) (u0 u1 u2 : Value) : Bx3 (((w.setCell ⟨B, 0, none⟩ u0).setCell ⟨B, 1, none⟩ u1).setCell ⟨B, 2, none⟩ u2) B u0 u1 u2 :=
  ⟨by rw [size_st3]; exact h.z, kCo (by decide) (kCo (by decide) (kCe (kI0 h.z0))), kCo (by decide) (kCe (kIs (kI0 h.z1))), kCe (kIs (kIs (kI0 h.z2)))⟩
def kq (kind : Nat) (a b : Rat) : Rat := if kind = 0 then a + b else if kind = 1 then a - b else if kind = 2 then a * b else a / b
end Go.Proofs.YtlpmfmphglgocaaGreatDoor
namespace Go.Proofs.YtlpmfmphglgocaaGreatDoor
open Go.RowKit

theorem Rn.num_zero {L w s x n c f y m d g q} (h : Rn L w s x n c f y m d g q) : q.num = 0 ↔ n = 0 := by
  constructor
  · intro h0
    rcases Nat.eq_zero_or_pos n with hn | hn
    · exact hn
    · have h1 := vf_pos h.num.lm (fm_of_wfB h.num.wf) hn
      have h2 := h.num.val
      cases s
      · rw [wv_false] at h2; omega
      · rw [wv_true] at h2; omega
  · intro hn
    subst hn
    have h2 := h.num.val
    cases s
    · rw [wv_false] at h2; exact h2.symm
    · rw [wv_true] at h2; have : -(0 : Int) = q.num := h2; omega

end Go.Proofs.YtlpmfmphglgocaaGreatDoor
namespace Go.Proofs.YtlpmfmphglgocaaGreatDoor
open Go.RowKit

set_option maxRecDepth 100000 in
set_option maxHeartbeats 4000000 in
theorem rOf_c {w : World} {z : Int} (h0 : -9223372036854775808 ≤ z) (h1 : z ≤ 9223372036854775807) :
    Calls Tryz.prog 31 #[.int .i64 z] w fun e w' => RatAns 4 w w' e (z : Rat) := by
  have h2 := ob_new w 24
  have h3 := below_alloc (Below.refl w.heap.size w) (.cells #[.bool false, .slice none 0 0, .slice none 0 0] 24)
  go_enter Tryz.func31, Tryz.ntmps31
  go_wp2_with fail
  generalize w.alloc (.cells #[.bool false, .slice none 0 0, .slice none 0 0] 24) = w1 at *
  have OB1 := hid h2; have HW1 := hid h3
  clear h2 h3
  refine (wOf_c z w1 h0 h1).mono ?_
  rintro e w2 ⟨s2, x2, n2, c2, f2, rfl, hr2, hv2⟩
  have hb := hr2.res.bel
  have hn2 := hr2.res.le
  have hw2 := (hr2.wn hv2).alloc (.cells #[.bool s2, .slice x2 n2 c2] 44)
  have hbx : Bx (w2.alloc (.cells #[.bool s2, .slice x2 n2 c2] 44)) w2.heap.size s2 x2 n2 c2 := ⟨by simp, kN0, kN1⟩
  have hob := (OB1.out.below hb).alloc (.cells #[.bool s2, .slice x2 n2 c2] 44)
  have hbw := below_alloc (HW1.out.trans (hb.mono HW1.out.size)) (.cells #[.bool s2, .slice x2 n2 c2] 44)
  have hB8 : w.heap.size < w2.heap.size := (OB1.out.below hb).z
  clear hr2 hv2 hb OB1 HW1
  go_wp2_with fail
  generalize w2.alloc (.cells #[.bool s2, .slice x2 n2 c2] 44) = w3 at *
  generalize w2.heap.size = b3 at *
  have W3 := hid hw2; have OB := hid hob; have HW := hid hbw
  obtain ⟨za, a0, a1⟩ := hbx
  obtain ⟨hz, z0, z1, z2, zf⟩ := hob
  clear hw2 hbw
  have C1 : Hid (∀ W : World, Calls Tryz.prog 65 #[] W fun e w' => ∃ x f, e = .returned (.slice x 1 1) ∧ Below W.heap.size W w' ∧ Hid (Wn w' false x 1 1 f 1)) := fun W => ratOne_c W
  have C2 : Hid (∀ (W : World) (y : Option Addr), Calls Tryz.prog 52 #[.bool s2, .slice x2 n2 c2, .slice y 1 1] W fun e w' => ∃ r, e = .returned (.agg #[.bool r, .slice x2 n2 c2, .slice y 1 1]) ∧ Below W.heap.size W w' ∧ Hid (r = (s2 && decide (0 < n2)))) := fun W y => (rsigned_c s2 x2 y n2 c2 1 1 W (by omega)).mono (fun _ _ ⟨r, k1, k2, k3⟩ => ⟨r, k1, k3, k2⟩)
  go_region_held3 (fun w' => w'.cell? ⟨b3, 0, none⟩ = some (.bool s2) ∧ w'.cell? ⟨b3, 1, none⟩ = some (.slice x2 n2 c2) ∧ (w'.cell? ⟨w.heap.size, 0, none⟩).isSome = true ∧ (w'.cell? ⟨w.heap.size, 1, none⟩).isSome = true ∧ (w'.cell? ⟨w.heap.size, 2, none⟩).isSome = true ∧ w'.frozen? ⟨w.heap.size, 0, none⟩ = false ∧ w'.frozen? ⟨w.heap.size, 1, none⟩ = false ∧ w'.frozen? ⟨w.heap.size, 2, none⟩ = false)
    (refine ⟨?_, ?_, ?_, ?_, ?_, ?_, ?_, ?_⟩ <;> repeat (with_reducible first | assumption | exact zf _ | exact tf _ | exact uf _ | exact kI0 z0 | exact kI0 z1 | exact kI0 z2 | exact kI0 t0 | exact kI0 t1 | exact kI0 t2 | exact kI0 u0 | exact kI0 u1 | exact kI0 u2 | refine kCd ?_ | refine kId ?_ | refine kFd ?_ | refine kCs (by simp only [ne_eq]; omega) ?_ | refine kIs ?_ | refine kFs ?_ | refine kCb (by assumption) ?_ | refine kIb (by assumption) ?_))
    (first
      | (go_at_call 65; with_reducible refine (C1.out _).mono ?_; rintro e v5 ⟨y5, f5, rfl, hb5, H5⟩; have Tt : Ob v5 (w.heap.size) := (by repeat (with_reducible first | exact OB.out | exact Tt | exact Tu | refine Ob.drew ?_ | refine kOb (by assumption) ?_)); obtain ⟨_, t0, t1, t2, tf⟩ := id Tt)
      | (go_at_call 52; with_reducible refine (C2.out _ y5).mono ?_; rintro e v6 ⟨r6, rfl, hb6, H6⟩; have Tu : Ob v6 (w.heap.size) := (by repeat (with_reducible first | exact OB.out | exact Tt | exact Tu | refine Ob.drew ?_ | refine kOb (by assumption) ?_)); obtain ⟨_, u0, u1, u2, uf⟩ := id Tu))
  all_goals
    have W5 : Wn v6 false y5 1 1 f5 1 := (by repeat (with_reducible first | exact H5.out | refine kWd ?_ | refine kWb (by assumption) ?_))
    have hb : Below w3.heap.size w3 v6 := (by repeat (with_reducible first | assumption | exact Below.refl _ _ | refine Below.drew ?_ | refine kBb (by assumption) ?_))
    have hr : r6 = s2 := by
      rw [H6.out]
      have := ((wfB_iff _ _ _).1 W3.out.wf).2
      cases s2
      · rfl
      · simp; exact this rfl
    subst hr
    go_wp2
    refine bodyPost_ret (v := .agg #[.bool r6, .slice x2 n2 c2, .slice y5 1 1]) (by simp [results, Tryz.results31, go_sem, u0, u1, u2]) rfl ⟨r6, x2, n2, c2, f2, y5, 1, 1, f5, rfl, below_st (HW.out.trans (hb.mono HW.out.size)) (Nat.le_refl _), Tu.rn ⟨?_, ?_, by omega, by omega⟩⟩
    · rw [Rat.num_intCast]; exact W3.out.below hb
    · rw [Rat.den_intCast]; exact W5
end Go.Proofs.YtlpmfmphglgocaaGreatDoor

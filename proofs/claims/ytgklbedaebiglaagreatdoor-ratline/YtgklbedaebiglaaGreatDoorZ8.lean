/-
  Walks of the document's reference for rat: To, DocMake of short numbers; the statements' own num. Walks of the statements' own num, and of package rat's calls Make and Floor. The walk of package rat's call Floor. Walks of the document's Same and Light of rational numbers, and of the statements' own light. Walks of package rat's calls Text on numbers in form, and Read on the text 4/2. The walk of package rat's call Text on -3/2. The walk of the statements' own look at answers of rat that the document fixes (awake). The walk of RatField. Walks of package rat's clone, Copy and Neg. The walk of package rat's call Cmp.
-/
import Derived.Test.YtgklbedaebiglaaGreatDoorZ7
namespace Go.Proofs.YtgklbedaebiglaaGreatDoor
open Go.RowKit

theorem Tg.set {w x} (h : Tg w x) (p : Addr) (u : Value) : Tg (w.setCell p u) x := fun a ha => by
  obtain ⟨arr, fr, hh⟩ := h a ha
  by_cases e : a.block = p.block
  · refine ⟨if p.spot.isSome then arr else arr.setIfInBounds p.off u, fr, ?_⟩
    rw [e] at hh ⊢
    simp [World.setCell, Array.getElem?_modify, hh]
  · exact ⟨arr, fr, (Below.heap_setCell w p u a.block e).trans hh⟩
theorem Tg.alloc {w x} (h : Tg w x) (o : Obj) : Tg (w.alloc o) x := h.below (below_alloc (Below.refl _ _) o)
theorem make_made {u v : Int} {s t : Bool} (hu : u = sg s u.natAbs) (hv : v = sg t v.natAbs) (h0 : 0 < v.natAbs) :
    ((u : Rat) / (v : Rat)).num = sg (s != t) (u.natAbs / u.natAbs.gcd v.natAbs) ∧ ((u : Rat) / (v : Rat)).den = v.natAbs / u.natAbs.gcd v.natAbs := by
  have e1 := Nat.div_mul_cancel (Nat.gcd_dvd_left u.natAbs v.natAbs)
  have e2 := Nat.div_mul_cancel (Nat.gcd_dvd_right u.natAbs v.natAbs)
  have := rmake (s := s) (t := t) (NA := u.natAbs / u.natAbs.gcd v.natAbs) (NB := v.natAbs / u.natAbs.gcd v.natAbs) (G := u.natAbs.gcd v.natAbs) (by rw [e2]; exact h0) (by rw [e1, e2])
  rw [e1, e2, ← hu, ← hv] at this
  exact this
/-- A number that a call answers without an error; its lists lie in blocks of limbs. -/
def RatTgt (L : Nat) (w w' : World) (e : Ending) (q : Rat) : Prop := ∃ s x n c f y m d g, e = .returned (.tuple #[.agg #[.bool s, .slice x n c, .slice y m d], .int .i64 0]) ∧ Below w.heap.size w w' ∧ Rn L w' s x n c f y m d g q ∧ Tg w' x ∧ Tg w' y
/-- The like, alone. -/
def RatTga (L : Nat) (w w' : World) (e : Ending) (q : Rat) : Prop := ∃ s x n c f y m d g, e = .returned (.agg #[.bool s, .slice x n c, .slice y m d]) ∧ Below w.heap.size w w' ∧ Rn L w' s x n c f y m d g q ∧ Tg w' x ∧ Tg w' y
theorem own_wn {w base x n c f} {V : Nat} (h : Own .u64 36 w base (.slice x n c) n f) (hl : Lm f n) (hf : Fm f n) (hv : vf f n = V) : Wn w false x n c f (V : Int) := by
  obtain ⟨h1, h2, h3, h4, _⟩ := h.slice
  exact ⟨h4, hl, (wfB_iff _ _ _).2 ⟨hf, fun h => by cases h⟩, ⟨h1, h2⟩, h3, hv⟩
theorem toWn_c {w x n c d} {V : Nat} (h : Dn w x n d V) (hn : n ≤ 1048576) :
    Calls Tryz.prog 92 #[.slice x n c] w fun e w' => ∃ z k c' f, e = .returned (.slice z k c') ∧ Below w.heap.size w w' ∧ Hid (k ≤ n ∧ Wn w' false z k c' f (V : Int) ∧ Tg w' z) :=
  (toOwn_c x n c d w hn h.rd h.dg h.fm).mono (fun _ _ ⟨z, k, c', f, h1, h2, h3, _, h4, h5, h6, h7⟩ => ⟨z, k, c', f, h1, h3, h4, own_wn h2 h5 h6 (h7.trans h.val), h2.tg⟩)
theorem fromDn_c {w s x n c f v} (h : Wn w s x n c f v) (hn : n ≤ 1048576) :
    Calls Tryz.prog 97 #[.slice x n c] w fun e w' => ∃ z k c', e = .returned (.slice z k c') ∧ Below w.heap.size w w' ∧ Hid (k ≤ 2 * n ∧ Dn w' z k (dig f) v.natAbs) :=
  (from_c x n c f w hn h.rd h.lm).mono (fun _ _ ⟨z, k, c', h1, h2, h3, h4, _, h6, h7, h8⟩ => ⟨z, k, c', h1, h2, h4, h3, h6, h7, h8.trans h.mag.nv⟩)

set_option maxRecDepth 100000 in
set_option maxHeartbeats 4000000 in
theorem qTo_c {w : World} {r : Bool} {x n c d y m e g} {A B : Nat} (ha : Dn w x n d A) (hb : Dn w y m g B) (hn : n ≤ 4096) (hm : m ≤ 4096) :
    Calls Tryz.prog 94 #[.agg #[.bool r, .slice x n c, .slice y m e]] w fun en w' => ∃ z k c' f z2 k2 c2 f2, en = .returned (.agg #[.bool r, .slice z k c', .slice z2 k2 c2]) ∧ Below w.heap.size w w' ∧ k ≤ n ∧ k2 ≤ m ∧ Wn w' false z k c' f (A : Int) ∧ Wn w' false z2 k2 c2 f2 (B : Int) ∧ Tg w' z ∧ Tg w' z2 := by
  have h1 := (ha.alloc (.cells #[.bool r, .slice x n c, .slice y m e] 109)).alloc (.cells #[.bool false, .slice none 0 0, .slice none 0 0] 40)
  have h2 := (hb.alloc (.cells #[.bool r, .slice x n c, .slice y m e] 109)).alloc (.cells #[.bool false, .slice none 0 0, .slice none 0 0] 40)
  have h3 := ob_new (w.alloc (.cells #[.bool r, .slice x n c, .slice y m e] 109)) 40
  rw [size_alloc1] at h3
  have h4 := below_alloc (below_alloc (Below.refl w.heap.size w) (.cells #[.bool r, .slice x n c, .slice y m e] 109)) (.cells #[.bool false, .slice none 0 0, .slice none 0 0] 40)
  have h5 := (bx3_at w (.bool r) (.slice x n c) (.slice y m e) 109).alloc (.cells #[.bool false, .slice none 0 0, .slice none 0 0] 40)
  clear ha hb
  go_enter Tryz.func94, Tryz.ntmps94
  go_wp2_with fail
  generalize (w.alloc (.cells #[.bool r, .slice x n c, .slice y m e] 109)).alloc (.cells #[.bool false, .slice none 0 0, .slice none 0 0] 40) = w1 at *
  have HA := hid h1; have HB := hid h2; have OB := h3; have HW := hid h4
  obtain ⟨hz, z0, z1, z2, zf⟩ := h3
  obtain ⟨hy, x0, x1, x2⟩ := h5
  clear h1 h2 h4
  have C1 : Hid (∀ W, Below w1.heap.size w1 W → Calls Tryz.prog 92 #[.slice x n c] W fun e w' => ∃ z k c' f, e = .returned (.slice z k c') ∧ Below W.heap.size W w' ∧ Hid (k ≤ n ∧ Wn w' false z k c' f (A : Int) ∧ Tg w' z)) := fun W hW => toWn_c (HA.out.below hW) (by omega)
  have C2 : Hid (∀ W, Below w1.heap.size w1 W → Calls Tryz.prog 92 #[.slice y m e] W fun e w' => ∃ z k c' f, e = .returned (.slice z k c') ∧ Below W.heap.size W w' ∧ Hid (k ≤ m ∧ Wn w' false z k c' f (B : Int) ∧ Tg w' z)) := fun W hW => toWn_c (HB.out.below hW) (by omega)
  go_region_held3 (fun w' => w'.cell? ⟨w.heap.size, 0, none⟩ = some (.bool r) ∧ w'.cell? ⟨w.heap.size, 1, none⟩ = some (.slice x n c) ∧ w'.cell? ⟨w.heap.size, 2, none⟩ = some (.slice y m e) ∧ (w'.cell? ⟨w.heap.size + 1, 0, none⟩).isSome = true ∧ (w'.cell? ⟨w.heap.size + 1, 1, none⟩).isSome = true ∧ (w'.cell? ⟨w.heap.size + 1, 2, none⟩).isSome = true ∧ w'.frozen? ⟨w.heap.size + 1, 0, none⟩ = false ∧ w'.frozen? ⟨w.heap.size + 1, 1, none⟩ = false ∧ w'.frozen? ⟨w.heap.size + 1, 2, none⟩ = false)
    (refine ⟨?_, ?_, ?_, ?_, ?_, ?_, ?_, ?_, ?_⟩ <;> repeat (with_reducible first | assumption | exact zf _ | exact kI0 z0 | exact kI0 z1 | exact kI0 z2 | exact tf _ | exact kI0 t0 | exact kI0 t1 | exact kI0 t2 | exact uf _ | exact kI0 u0 | exact kI0 u1 | exact kI0 u2 | refine kCd ?_ | refine kId ?_ | refine kFd ?_ | refine kCs (by simp only [ne_eq]; omega) ?_ | refine kIs ?_ | refine kFs ?_ | refine kCb (by assumption) ?_ | refine kIb (by assumption) ?_))
    (first
      | (go_at_call 92; with_reducible refine (C1.out _ (by repeat (with_reducible first | assumption | exact Below.refl _ _ | refine Below.drew ?_ | refine kBa ?_ | refine kBb (by assumption) ?_))).mono ?_; rintro e w5 ⟨za, ka, ca, fa, rfl, hb5, HP⟩; have TU : Ob w5 (w.heap.size + 1) := (by repeat (with_reducible first | exact OB | exact hO2 | exact TU | exact TV | exact TW | exact TX | exact TY | refine Ob.drew ?_ | refine kOb (by assumption) ?_)); obtain ⟨_, t0, t1, t2, tf⟩ := id TU)
      | (go_at_call 92; with_reducible refine (C2.out _ (by repeat (with_reducible first | assumption | exact Below.refl _ _ | refine Below.drew ?_ | refine kBa ?_ | refine kBb (by assumption) ?_))).mono ?_; rintro e w6 ⟨zb, kb, cb, fb, rfl, hb6, HQ⟩; have TV : Ob w6 (w.heap.size + 1) := (by repeat (with_reducible first | exact OB | exact hO2 | exact TU | exact TV | exact TW | exact TX | exact TY | refine Ob.drew ?_ | refine kOb (by assumption) ?_)); obtain ⟨_, u0, u1, u2, uf⟩ := id TV))
  have WA : Wn w6 false za ka ca fa (A : Int) := HP.out.2.1.below hb6
  have hb : Below w1.heap.size w1 w6 := (by repeat (with_reducible first | assumption | exact Below.refl _ _ | refine Below.drew ?_ | refine kBa ?_ | refine kBb (by assumption) ?_))
  go_wp2
  exact bodyPost_ret (v := .agg #[.bool r, .slice za ka ca, .slice zb kb cb]) (by simp [results, Tryz.results94, go_sem, u0, u1, u2]) rfl ⟨za, ka, ca, fa, zb, kb, cb, fb, rfl, below_st (HW.out.trans (hb.mono HW.out.size)) (by omega), HP.out.1, HQ.out.1, TV.wn WA, TV.wn HQ.out.2.1, ((((HP.out.2.2.below hb6).set _ _).set _ _).set _ _), (((HQ.out.2.2.set _ _).set _ _).set _ _)⟩

theorem mk_boxes {w w1 : World} {sa xa na ca sb xb nb cb} (hb : Below (((w.alloc (.cells #[.bool sa, .slice xa na ca] 24)).alloc (.cells #[.bool sb, .slice xb nb cb] 24)).alloc (.cells #[.bool false, .slice none 0 0, .slice none 0 0] 40)).heap.size (((w.alloc (.cells #[.bool sa, .slice xa na ca] 24)).alloc (.cells #[.bool sb, .slice xb nb cb] 24)).alloc (.cells #[.bool false, .slice none 0 0, .slice none 0 0] 40)) w1) :
    Bx w1 w.heap.size sa xa na ca ∧ Bx w1 (w.heap.size + 1) sb xb nb cb ∧ Ob w1 (w.heap.size + 1 + 1) ∧ Below w.heap.size w w1 := by
  have h0 : Bx (w.alloc (.cells #[.bool sa, .slice xa na ca] 24)) w.heap.size sa xa na ca := ⟨by simp, kN0, kN1⟩
  have h1 : Bx ((w.alloc (.cells #[.bool sa, .slice xa na ca] 24)).alloc (.cells #[.bool sb, .slice xb nb cb] 24)) (w.heap.size + 1) sb xb nb cb := by
    have := size_alloc1 w (.cells #[.bool sa, .slice xa na ca] 24)
    refine ⟨by simp, ?_, ?_⟩
    · rw [← this]; exact kN0
    · rw [← this]; exact kN1
  have h2 := ob_new ((w.alloc (.cells #[.bool sa, .slice xa na ca] 24)).alloc (.cells #[.bool sb, .slice xb nb cb] 24)) 40
  rw [size_alloc1, size_alloc1] at h2
  exact ⟨((h0.alloc _).alloc _).below hb, (h1.alloc _).below hb, h2.below hb, (below_alloc (below_alloc (below_alloc (Below.refl w.heap.size w) _) _) _).trans (hb.mono (by simp; omega))⟩

set_option maxRecDepth 100000 in
set_option maxHeartbeats 4000000 in
theorem docMake_c {w : World} {sa : Bool} {xa : Option Addr} {na ca : Nat} {fa : Nat → Int} {sb : Bool} {xb : Option Addr} {nb cb : Nat} {fb : Nat → Int} {u v : Int} (ha : Wn w sa xa na ca fa u) (hb : Wn w sb xb nb cb fb v) (hu : u ≠ 0) (hv : v ≠ 0) (hna : na ≤ 1) (hnb1 : nb ≤ 1) :
    Calls Tryz.prog 67 #[.agg #[.bool sa, .slice xa na ca], .agg #[.bool sb, .slice xb nb cb]] w fun e w' => RatTgt 2 w w' e ((u : Rat) / (v : Rat)) := by
  have HA0 := hid ha; have HB0 := hid hb
  have hvA : 0 < v.natAbs := by omega
  have hnb : 0 < nb := hb.mag.pos (by omega)
  clear ha hb
  have hn0 : ((nb : Int) == 0) = false := by simp; omega
  go_enter Tryz.func67, Tryz.ntmps67
  go_wp2_with fail
  refine (rwForm_c sa xa na ca fa _ (by omega) (((HA0.out.alloc _).alloc _).alloc _).rd).mono ?_
  rintro e w1 ⟨rfl, hb⟩
  rw [HA0.out.wf]
  obtain ⟨ba, bb, ob, hw⟩ := mk_boxes hb
  have BA1 := hid ba; have BB1 := hid bb; have OB1 := hid ob; have HW1 := hid hw; have HA1 := hid (HA0.out.below hw); have HB1 := hid (HB0.out.below hw)
  clear ba bb ob hw hb HA0 HB0
  obtain ⟨zb, b0, b1⟩ := BB1.out
  go_wp2_with fail
  refine (rwForm_c sb xb nb cb fb _ (by omega) HB1.out.rd).mono ?_
  rintro e w2 ⟨rfl, hb⟩
  rw [HB1.out.wf]
  clear zb b0 b1
  have BA2 := hid (BA1.out.below hb); have BB2 := hid (BB1.out.below hb); have OB2 := hid (OB1.out.below hb); have HA2 := hid (HA1.out.below hb); have HB2 := hid (HB1.out.below hb); have HW2 := hid (HW1.out.trans (hb.mono HW1.out.size))
  clear BA1 BB1 OB1 HA1 HB1 HW1 hb
  obtain ⟨za, a0, a1⟩ := BA2.out
  obtain ⟨zb, b0, b1⟩ := BB2.out
  obtain ⟨hz, z0, z1, z2, zf⟩ := OB2.out
  have hO2 := OB2.out
  have C1 : Hid (∀ W, Below w2.heap.size w2 W → Calls Tryz.prog 97 #[.slice xa na ca] W fun e w' => ∃ z k c', e = .returned (.slice z k c') ∧ Below W.heap.size W w' ∧ Hid (k ≤ 2 * na ∧ Dn w' z k (dig fa) u.natAbs)) := fun W hW => fromDn_c (HA2.out.below hW) (by omega)
  have C2 : Hid (∀ W, Below w2.heap.size w2 W → Calls Tryz.prog 97 #[.slice xb nb cb] W fun e w' => ∃ z k c', e = .returned (.slice z k c') ∧ Below W.heap.size W w' ∧ Hid (k ≤ 2 * nb ∧ Dn w' z k (dig fb) v.natAbs)) := fun W hW => fromDn_c (HB2.out.below hW) (by omega)
  have C3 : Hid (∀ (W : World) (z : Option Addr) (k cap : Nat), k ≤ 2 → Calls Tryz.prog 96 #[.bool (!(sa == sb)), .slice z k cap] W fun e w' => ∃ r, e = .returned (.agg #[.bool r, .slice z k cap]) ∧ Below W.heap.size W w' ∧ Hid (r = ((!(sa == sb)) && decide (0 < k)))) := fun W z k cap hk => (zMk_c (!(sa == sb)) z k cap W (by omega)).mono (fun e w' ⟨r, h1, h2, h3⟩ => ⟨r, h1, h3, h2⟩)
  have C4 : Hid (∀ (W : World) (r : Bool) (z : Option Addr) (k cap : Nat) (y : Option Addr) (m e : Nat), k ≤ 2 → m ≤ 2 → Dn W z k (dig fa) u.natAbs → Dn W y m (dig fb) v.natAbs → Calls Tryz.prog 95 #[.agg #[.bool r, .slice z k cap], .slice y m e] W fun e w' => ∃ r' z k c' z2 k2 c2, e = .returned (.agg #[.bool r', .slice z k c', .slice z2 k2 c2]) ∧ Below W.heap.size W w' ∧ Hid (k ≤ 2 ∧ k2 ≤ 2 ∧ r' = (r && decide (0 < k)) ∧ (∃ d', Dn w' z k d' (u.natAbs / u.natAbs.gcd v.natAbs)) ∧ ∃ d2, Dn w' z2 k2 d2 (v.natAbs / u.natAbs.gcd v.natAbs))) := fun W r z k cap y m e hk hm h1 h2 => (mkSmall_c h1 h2 (by omega) hk hm hvA).mono (fun e w' ⟨r', z, k, c', d', z2, k2, c2, d2, h1, h2, h3, h4, h5, h6, h7⟩ => ⟨r', z, k, c', z2, k2, c2, h1, h2, h3, h4, h5, ⟨d', h6⟩, d2, h7⟩)
  have C5 : Hid (∀ (W : World) (r : Bool) (z : Option Addr) (k cap : Nat) (y : Option Addr) (m e : Nat), k ≤ 2 → m ≤ 2 → (∃ d', Dn W z k d' (u.natAbs / u.natAbs.gcd v.natAbs)) → (∃ d2, Dn W y m d2 (v.natAbs / u.natAbs.gcd v.natAbs)) → Calls Tryz.prog 94 #[.agg #[.bool r, .slice z k cap, .slice y m e]] W fun en w' => ∃ z k' c' f z2 k2 c2 f2, en = .returned (.agg #[.bool r, .slice z k' c', .slice z2 k2 c2]) ∧ Below W.heap.size W w' ∧ Hid (k' ≤ k ∧ k2 ≤ m ∧ Wn w' false z k' c' f ((u.natAbs / u.natAbs.gcd v.natAbs : Nat) : Int) ∧ Wn w' false z2 k2 c2 f2 ((v.natAbs / u.natAbs.gcd v.natAbs : Nat) : Int) ∧ Tg w' z ∧ Tg w' z2)) := fun W r z k cap y m e hk hm ⟨_, h1⟩ ⟨_, h2⟩ => qTo_c h1 h2 (by omega) (by omega)
  go_wp2_with fail
  go_region_held3 (fun w' => w'.cell? ⟨w.heap.size, 0, none⟩ = some (.bool sa) ∧ w'.cell? ⟨w.heap.size, 1, none⟩ = some (.slice xa na ca) ∧ w'.cell? ⟨w.heap.size + 1, 0, none⟩ = some (.bool sb) ∧ w'.cell? ⟨w.heap.size + 1, 1, none⟩ = some (.slice xb nb cb) ∧ (w'.cell? ⟨w.heap.size + 1 + 1, 0, none⟩).isSome = true ∧ (w'.cell? ⟨w.heap.size + 1 + 1, 1, none⟩).isSome = true ∧ (w'.cell? ⟨w.heap.size + 1 + 1, 2, none⟩).isSome = true ∧ w'.frozen? ⟨w.heap.size + 1 + 1, 0, none⟩ = false ∧ w'.frozen? ⟨w.heap.size + 1 + 1, 1, none⟩ = false ∧ w'.frozen? ⟨w.heap.size + 1 + 1, 2, none⟩ = false)
    (refine ⟨?_, ?_, ?_, ?_, ?_, ?_, ?_, ?_, ?_, ?_⟩ <;> repeat (with_reducible first | assumption | exact zf _ | exact kI0 z0 | exact kI0 z1 | exact kI0 z2 | exact tf _ | exact kI0 t0 | exact kI0 t1 | exact kI0 t2 | exact uf _ | exact kI0 u0 | exact kI0 u1 | exact kI0 u2 | exact vf _ | exact kI0 v0 | exact kI0 v1 | exact kI0 v2 | exact sf _ | exact kI0 s0 | exact kI0 s1 | exact kI0 s2 | exact rf _ | exact kI0 r0 | exact kI0 r1 | exact kI0 r2 | refine kCd ?_ | refine kId ?_ | refine kFd ?_ | refine kCs (by simp only [ne_eq]; omega) ?_ | refine kIs ?_ | refine kFs ?_ | refine kCb (by assumption) ?_ | refine kIb (by assumption) ?_))
    (first
      | (go_at_call 97; with_reducible refine (C1.out _ (by repeat (with_reducible first | assumption | exact Below.refl _ _ | refine Below.drew ?_ | refine kBa ?_ | refine kBb (by assumption) ?_))).mono ?_; rintro e w5 ⟨zp, kp, cp, rfl, hb5, HP⟩; have hkp : kp ≤ 2 := (by have := HP.out.1; omega); have TU : Ob w5 (w.heap.size + 1 + 1) := (by repeat (with_reducible first | exact OB | exact hO2 | exact TU | exact TV | exact TW | exact TX | exact TY | refine Ob.drew ?_ | refine kOb (by assumption) ?_)); obtain ⟨_, t0, t1, t2, tf⟩ := id TU)
      | (go_at_call 96; with_reducible refine (C3.out _ zp kp cp hkp).mono ?_; rintro e w6 ⟨r, rfl, hb6, HR⟩; have TV : Ob w6 (w.heap.size + 1 + 1) := (by repeat (with_reducible first | exact OB | exact hO2 | exact TU | exact TV | exact TW | exact TX | exact TY | refine Ob.drew ?_ | refine kOb (by assumption) ?_)); obtain ⟨_, u0, u1, u2, uf⟩ := id TV)
      | (go_at_call 97; with_reducible refine (C2.out _ (by repeat (with_reducible first | assumption | exact Below.refl _ _ | refine Below.drew ?_ | refine kBa ?_ | refine kBb (by assumption) ?_))).mono ?_; rintro e w7 ⟨zq, kq, cq, rfl, hb7, HQ⟩; have hkq : kq ≤ 2 := (by have := HQ.out.1; omega); have TW : Ob w7 (w.heap.size + 1 + 1) := (by repeat (with_reducible first | exact OB | exact hO2 | exact TU | exact TV | exact TW | exact TX | exact TY | refine Ob.drew ?_ | refine kOb (by assumption) ?_)); obtain ⟨_, v0, v1, v2, vf⟩ := id TW)
      | (go_at_call 95; with_reducible refine (C4.out _ r zp kp cp zq kq cq hkp hkq ((HP.out.2.below hb6).below hb7) HQ.out.2).mono ?_; rintro e w8 ⟨r', zr, kr, cr, zs, ks, cs, rfl, hb8, HM⟩; have TX : Ob w8 (w.heap.size + 1 + 1) := (by repeat (with_reducible first | exact OB | exact hO2 | exact TU | exact TV | exact TW | exact TX | exact TY | refine Ob.drew ?_ | refine kOb (by assumption) ?_)); obtain ⟨_, s0, s1, s2, sf⟩ := id TX)
      | (go_at_call 94; with_reducible refine (C5.out _ r' zr kr cr zs ks cs HM.out.1 HM.out.2.1 HM.out.2.2.2.1 HM.out.2.2.2.2).mono ?_; rintro e w9 ⟨zn, kn, cn, fn, zd, kd, cd, fd, rfl, hb9, HT⟩; have TY : Ob w9 (w.heap.size + 1 + 1) := (by repeat (with_reducible first | exact OB | exact hO2 | exact TU | exact TV | exact TW | exact TX | exact TY | refine Ob.drew ?_ | refine kOb (by assumption) ?_)); obtain ⟨_, r0, r1, r2, rf⟩ := id TY))
  have hb : Below w2.heap.size w2 w9 := (by repeat (with_reducible first | assumption | exact Below.refl _ _ | refine Below.drew ?_ | refine kBa ?_ | refine kBb (by assumption) ?_))
  have hT := HT.out
  obtain ⟨e1, e2⟩ := make_made HA2.out.sgn HB2.out.sgn hvA
  have hM := HM.out
  have hRR : r' = ((sa != sb) && decide (0 < kn)) := by
    rw [hM.2.2.1, HR.out]
    have e3 : 0 < u.natAbs / u.natAbs.gcd v.natAbs := Nat.div_pos (Nat.gcd_le_left _ (by omega)) (Nat.gcd_pos_of_pos_right _ hvA)
    have k1 : 0 < kn := hT.2.2.1.pos (by omega)
    have k2 : 0 < kr := by omega
    have k3 : 0 < kp := by
      rcases Nat.eq_zero_or_pos kp with h | h
      · have h2 := HP.out.2.val; rw [h] at h2; have : (0 : Int) = u.natAbs := h2; omega
      · exact h
    simp [k1, k2, k3, bne]
  go_wp2
  refine bodyPost_ret (v := .tuple #[.agg #[.bool r', .slice zn kn cn, .slice zd kd cd], .int .i64 0]) (by simp [results, Tryz.results67, go_sem, r0, r1, r2]) rfl ⟨r', zn, kn, cn, fn, zd, kd, cd, fd, rfl, below_st (HW2.out.trans (hb.mono HW2.out.size)) (by omega), ⟨?_, ?_, by omega, by omega⟩, ((hT.2.2.2.2.1.set _ _).set _ _).set _ _, ((hT.2.2.2.2.2.set _ _).set _ _).set _ _⟩
  · rw [e1]; exact TY.wn (hT.2.2.1.resign hRR)
  · rw [e2]; exact TY.wn hT.2.2.2.1
end Go.Proofs.YtgklbedaebiglaaGreatDoor
namespace Go.Proofs.YtgklbedaebiglaaGreatDoor
open Go.RowKit

theorem Wn.len1 {w s x n c f v} (h : Wn w s x n c f v) (hv : v.natAbs < 18446744073709551616) : n ≤ 1 := by
  rcases Nat.lt_or_ge 1 n with h2 | h2
  · have h1 := vf_form_ge h.lm h.fm (by omega)
    have h3 := pw_mono (show 1 ≤ n - 1 by omega)
    have h4 : pw 1 = 18446744073709551616 := by simp [pw]
    have h5 := h.mag.nv
    omega
  · omega
set_option maxRecDepth 100000 in
set_option maxHeartbeats 4000000 in
theorem num_c (w : World) (n d : Int) (hn : -9223372036854775808 ≤ n ∧ n ≤ 9223372036854775807) (hd : -9223372036854775808 ≤ d ∧ d ≤ 9223372036854775807) (h1 : n ≠ 0) (h2 : d ≠ 0) :
    Calls Tryz.prog 33 #[.int .i64 n, .int .i64 d] w fun e w' => RatTga 2 w w' e ((n : Rat) / (d : Rat)) := by
  have h3 := ob_new w 40
  have h4 := below_alloc (Below.refl w.heap.size w) (.cells #[.bool false, .slice none 0 0, .slice none 0 0] 40)
  go_enter Tryz.func33, Tryz.ntmps33
  go_wp2_with fail
  generalize w.alloc (.cells #[.bool false, .slice none 0 0, .slice none 0 0] 40) = w1 at *
  have OB1 := hid h3; have HW1 := hid h4
  clear h3 h4
  refine (docOf_c n _ hn.1 hn.2).mono ?_
  rintro e w2 ⟨s2, x2, k2, c2, f2, rfl, hr2, hv2⟩
  have hb := hr2.res.bel
  have WN2 := hid (hr2.wn hv2)
  have hk2 := (hr2.wn hv2).len1 (by omega)
  clear hr2 hv2
  have OB2 := hid (OB1.out.below hb); have HW2 := hid (HW1.out.trans (hb.mono HW1.out.size))
  clear OB1 HW1 hb
  go_wp2_with fail
  refine (docOf_c d _ hd.1 hd.2).mono ?_
  rintro e w3 ⟨s3, x3, k3, c3, f3, rfl, hr3, hv3⟩
  have hb := hr3.res.bel
  have WD3 := hid (hr3.wn hv3)
  have hk3 := (hr3.wn hv3).len1 (by omega)
  clear hr3 hv3
  have OB3 := hid (OB2.out.below hb); have WN3 := hid (WN2.out.below hb); have HW3 := hid (HW2.out.trans (hb.mono HW2.out.size))
  clear OB2 WN2 HW2 hb
  go_wp2_with fail
  refine (docMake_c WN3.out WD3.out h1 h2 hk2 hk3).mono ?_
  rintro e w4 ⟨rs, zn, kn, cn, fn, zd, kd, cd, fd, rfl, hb, hr, ht1, ht2⟩
  have HR := hid hr; have G1 := hid ht1; have G2 := hid ht2
  clear hr ht1 ht2
  have OB4 := hid (OB3.out.below hb); have HW4 := hid (HW3.out.trans (hb.mono HW3.out.size))
  clear OB3 HW3 hb
  obtain ⟨hz, z0, z1, z2, zf⟩ := OB4.out
  go_wp2
  exact bodyPost_ret (v := .agg #[.bool rs, .slice zn kn cn, .slice zd kd cd]) (by simp [results, Tryz.results33, go_sem, z0, z1, z2, hz]) rfl ⟨rs, zn, kn, cn, fn, zd, kd, cd, fd, rfl, below_alloc (below_st HW4.out (Nat.le_refl _)) _, (OB4.out.rn HR.out).alloc _, (((G1.out.set _ _).set _ _).set _ _).alloc _, (((G2.out.set _ _).set _ _).set _ _).alloc _⟩

set_option maxRecDepth 100000 in
set_option maxHeartbeats 4000000 in
theorem rMake_n {w : World} {sa : Bool} {xa : Option Addr} {na ca : Nat} {fa : Nat → Int} {sb : Bool} {xb : Option Addr} {nb cb : Nat} {fb : Nat → Int} {u v : Int} (ha : Wn w sa xa na ca fa u) (hb : Wn w sb xb nb cb fb v) {L : Nat} (hv : v ≠ 0) (hna : na ≤ L) (hnbL : nb ≤ L) (hL : L ≤ 1000) :
    Calls Tryz.prog 31 #[.agg #[.bool sa, .slice xa na ca], .agg #[.bool sb, .slice xb nb cb]] w fun e w' => RatTup L w w' e ((u : Rat) / (v : Rat)) := by
  have HA0 := hid ha; have HB0 := hid hb
  have hvA : 0 < v.natAbs := by omega
  have hnb : 0 < nb := hb.mag.pos (by omega)
  clear ha hb
  have hn0 : ((nb : Int) == 0) = false := by simp; omega
  go_enter Tryz.func31, Tryz.ntmps31
  go_wp2_with fail
  refine (wForm_c sa xa na ca fa _ (by omega) (((HA0.out.alloc _).alloc _).alloc _).rd).mono ?_
  rintro e w1 ⟨rfl, hb⟩
  rw [HA0.out.wf]
  obtain ⟨ba, bb, ob, hw⟩ := mk_boxes hb
  have BA1 := hid ba; have BB1 := hid bb; have OB1 := hid ob; have HW1 := hid hw; have HA1 := hid (HA0.out.below hw); have HB1 := hid (HB0.out.below hw)
  clear ba bb ob hw hb HA0 HB0
  obtain ⟨zb, b0, b1⟩ := BB1.out
  go_wp2_with fail
  refine (wForm_c sb xb nb cb fb _ (by omega) HB1.out.rd).mono ?_
  rintro e w2 ⟨rfl, hb⟩
  rw [HB1.out.wf]
  clear zb b0 b1
  have BA2 := hid (BA1.out.below hb); have BB2 := hid (BB1.out.below hb); have OB2 := hid (OB1.out.below hb); have HA2 := hid (HA1.out.below hb); have HB2 := hid (HB1.out.below hb); have HW2 := hid (HW1.out.trans (hb.mono HW1.out.size))
  clear BA1 BB1 OB1 HA1 HB1 HW1 hb
  obtain ⟨za, a0, a1⟩ := BA2.out
  obtain ⟨zb, b0, b1⟩ := BB2.out
  obtain ⟨hz, z0, z1, z2, zf⟩ := OB2.out
  go_wp2_with fail
  refine (ratGcd_c HA2.out.mag HB2.out.mag (by omega) (by omega)).mono ?_
  rintro e w3 ⟨zg, kg, cg, fg, rfl, hb, hg⟩
  have WG3 := hid hg
  have hG0 : 0 < u.natAbs.gcd v.natAbs := Nat.gcd_pos_of_pos_right _ hvA
  have hkg : kg ≤ L := Nat.le_trans (hg.len_le HB2.out.mag (Nat.gcd_le_right _ hvA)) (by omega)
  clear hg za a0 a1 zb b0 b1 hz z0 z1 z2 zf
  have BA3 := hid (BA2.out.below hb); have BB3 := hid (BB2.out.below hb); have OB3 := hid (OB2.out.below hb); have HA3 := hid (HA2.out.below hb); have HB3 := hid (HB2.out.below hb); have HW3 := hid (HW2.out.trans (hb.mono HW2.out.size))
  clear BA2 BB2 OB2 HA2 HB2 HW2 hb
  obtain ⟨za, a0, a1⟩ := BA3.out
  obtain ⟨zb, b0, b1⟩ := BB3.out
  go_wp2_with fail
  refine (div_n HA3.out.mag WG3.out hG0 (by omega) (by omega)).mono ?_
  rintro e w4 ⟨zn, kn, cn, fn, zx, kx, cx, rfl, hb, hkn, hn⟩
  have WN4 := hid hn
  clear hn za a0 a1 zb b0 b1
  have BA4 := hid (BA3.out.below hb); have BB4 := hid (BB3.out.below hb); have OB4 := hid (OB3.out.below hb); have HA4 := hid (HA3.out.below hb); have HB4 := hid (HB3.out.below hb); have WG4 := hid (WG3.out.below hb); have HW4 := hid (HW3.out.trans (hb.mono HW3.out.size))
  clear BA3 BB3 OB3 HA3 HB3 WG3 HW3 hb
  obtain ⟨za, a0, a1⟩ := BA4.out
  obtain ⟨zb, b0, b1⟩ := BB4.out
  go_wp2_with fail
  refine (div_n HB4.out.mag WG4.out hG0 (by omega) (by omega)).mono ?_
  rintro e w5 ⟨zd, kd, cd, fd, zy, ky, cy, rfl, hb, hkd, hn⟩
  have WD5 := hid hn
  clear hn za a0 a1 zb b0 b1
  have BA5 := hid (BA4.out.below hb); have BB5 := hid (BB4.out.below hb); have OB5 := hid (OB4.out.below hb); have HA5 := hid (HA4.out.below hb); have HB5 := hid (HB4.out.below hb); have WN5 := hid (WN4.out.below hb); have HW5 := hid (HW4.out.trans (hb.mono HW4.out.size))
  clear BA4 BB4 OB4 HA4 HB4 WN4 HW4 hb
  obtain ⟨za, a0, a1⟩ := BA5.out
  obtain ⟨zb, b0, b1⟩ := BB5.out
  obtain ⟨e1, e2⟩ := make_made HA5.out.sgn HB5.out.sgn hvA
  have E1 := hid e1; have E2 := hid e2
  clear e1 e2
  go_wp2_with fail
  refine (rsigned_c _ zn zd kn cn kd cd _ (by omega)).mono ?_
  rintro e w6 ⟨rs, rfl, HRS, hb⟩
  clear za a0 a1 zb b0 b1
  have OB6 := hid (OB5.out.below hb); have WN6 := hid (WN5.out.below hb); have WD6 := hid (WD5.out.below hb); have HW6 := hid (HW5.out.trans (hb.mono HW5.out.size))
  clear OB5 WN5 WD5 HW5 hb
  obtain ⟨hz, z0, z1, z2, zf⟩ := OB6.out
  go_wp2
  refine bodyPost_ret (v := .tuple #[.agg #[.bool rs, .slice zn kn cn, .slice zd kd cd], .int .i64 0]) (by simp [results, Tryz.results31, go_sem, z0, z1, z2]) rfl ⟨rs, zn, kn, cn, fn, zd, kd, cd, fd, rfl, below_st HW6.out (by omega), ⟨?_, ?_, by omega, by omega⟩⟩
  · rw [E1.out]; exact OB6.out.wn (WN6.out.resign HRS.out)
  · rw [E2.out]; exact OB6.out.wn WD6.out
end Go.Proofs.YtgklbedaebiglaaGreatDoor
namespace Go.Proofs.YtgklbedaebiglaaGreatDoor
open Go.RowKit

theorem kM0 {w : World} {g : Nat} {x y : Value} {t : TypeId} (h : g = w.heap.size) : (w.alloc (.cells #[x, y] t)).cell? ⟨g, 0, none⟩ = some x := by subst h; exact kN0
theorem kM1 {w : World} {g : Nat} {x y : Value} {t : TypeId} (h : g = w.heap.size) : (w.alloc (.cells #[x, y] t)).cell? ⟨g, 1, none⟩ = some y := by subst h; exact kN1
theorem kCe {w : World} {a : Addr} {v : Value} (h : (w.cell? a).isSome = true) : (w.setCell a v).cell? a = some v := World.cell?_setCell_same' w a v h
theorem kCo {w : World} {b i j : Nat} {u v : Value} (hij : i ≠ j) (h : w.cell? ⟨b, j, none⟩ = some u) : (w.setCell ⟨b, i, none⟩ v).cell? ⟨b, j, none⟩ = some u := by
  rw [World.cell?_setCell_other _ _ _ _ (fun he => hij (congrArg Addr.off he))]; exact h
/-- A new box for an answer of two cells. -/
structure Ob2 (w : World) (B : Nat) : Prop where
  z : B < w.heap.size
  z0 : w.cell? ⟨B, 0, none⟩ = some (.bool false)
  z1 : w.cell? ⟨B, 1, none⟩ = some (.slice none 0 0)
  zf : ∀ o, w.frozen? ⟨B, o, none⟩ = false
theorem Ob2.below {w w' B} (h : Ob2 w B) (hb : Below w.heap.size w w') : Ob2 w' B := by
  obtain ⟨h1, h2⟩ := bcell hb
  exact ⟨Nat.lt_of_lt_of_le h.z hb.size, kCb hb h.z0, kCb hb h.z1, fun o => (h2 _ _ h.z).trans (h.zf o)⟩
theorem ob2_new (w : World) (t : TypeId) : Ob2 (w.alloc (.cells #[.bool false, .slice none 0 0] t)) w.heap.size := by
  refine ⟨by simp, by simp [go_sem], by simp [go_sem], fun o => ?_⟩
  have e := heap_alloc_new w (.cells #[.bool false, .slice none 0 0] t)
  simp only [World.frozen?, e]; simp
theorem Ob2.wn {w B u0 u1 s x n c f v} (h : Ob2 w B) (hx : Wn w s x n c f v) : Wn ((w.setCell ⟨B, 0, none⟩ u0).setCell ⟨B, 1, none⟩ u1) s x n c f v :=
  ⟨rd_setne (cell_off (by decide) h.z1) (fun i h => by cases h) (rd_setne h.z0 (fun i h => by cases h) hx.rd), hx.lm, hx.wf, hx.cap, hx.nil, hx.val⟩
theorem below_st2 {w0 w : World} {B : Nat} {u0 u1 : Value} (hw : Below w0.heap.size w0 w) (hB : w0.heap.size ≤ B) :
    Below w0.heap.size w0 ((w.setCell ⟨B, 0, none⟩ u0).setCell ⟨B, 1, none⟩ u1) :=
  below_turned hw hw.size (((Turned.refl w0.heap.size (B + 1) w).set (x := ⟨B, 0, none⟩) hB (by simp) _).set (x := ⟨B, 1, none⟩) hB (by simp) _) (Nat.le_refl _)
theorem flr_ediv {a b q r : Int} (hb : 0 < b) (h : Flr a b q r) : q = a / b := by
  obtain ⟨h1, h2⟩ := h
  have h3 : 0 ≤ r ∧ r < b := by omega
  have h4 : a / b = q := by
    rw [h1, Int.add_comm, Int.add_mul_ediv_right _ _ (by omega), Int.ediv_eq_zero_of_lt h3.1 h3.2]; omega
  exact h4.symm
/-- What stands behind the quotient. -/
structure FlAt (L : Nat) (w1 wx : World) (b4 : Nat) (s : Bool) (z : Option Addr) (k c : Nat) (v : Int) : Prop where
  bx : Bx wx b4 s z k c
  bel : Below w1.heap.size w1 wx
  wn : ∃ f, Wn wx s z k c f v
  le : k ≤ L + 2
theorem fl_of {L : Nat} {w1 wx W5 w5 : World} {b4 : Nat} {r1 : Bool} {p1 : Option Addr} {k1 c1 n : Nat} {q : Nat → Int} {v : Int} (hn : n ≤ L) (hW : Below w1.heap.size w1 W5) (hD : WRes (n + 2) W5 w5 r1 p1 k1 c1 q ∧ wv r1 q k1 = v) (hT : Turned w1.heap.size W5.heap.size w5 wx) (hb : Bx wx b4 r1 p1 k1 c1) : FlAt L w1 wx b4 r1 p1 k1 c1 v := by
  have hQ := hD.1.res.turned hW hT
  have := hQ.le
  exact ⟨hb, hQ.bel, ⟨q, hQ.rd, hQ.lm, hD.1.wfB, hQ.ncap, hQ.nil', hD.2⟩, by omega⟩

set_option maxRecDepth 100000 in
set_option maxHeartbeats 8000000 in
theorem rFloor_n {L : Nat} {w : World} {sa : Bool} {xa : Option Addr} {na ca : Nat} {fa : Nat → Int} {ya : Option Addr} {ma da : Nat} {ga : Nat → Int} {a : Rat} (ha : Rn L w sa xa na ca fa ya ma da ga a) (hL : L ≤ 1000) :
    Calls Tryz.prog 30 #[.agg #[.bool sa, .slice xa na ca, .slice ya ma da]] w fun e w' => ∃ s z k c f, e = .returned (.tuple #[.agg #[.bool s, .slice z k c], .int .i64 0]) ∧ Below w.heap.size w w' ∧ k ≤ L + 2 ∧ Wn w' s z k c f a.floor := by
  have HA0 := hid ha
  have b1 := ha.ln; have b2 := ha.ld
  clear ha
  go_enter Tryz.func30, Tryz.ntmps30
  go_wp2_with fail
  refine (rForm_n ((HA0.out.alloc _).alloc _) (by omega)).mono ?_
  rintro e w1 ⟨rfl, hbel⟩
  have hbx := ((bx3_at w _ _ _ _).alloc _).below hbel
  have hob := (ob2_new (w.alloc _) _).below hbel
  rw [size_alloc1] at hob
  have HW1 : Hid (Below w.heap.size w w1) := (below_alloc (below_alloc (Below.refl w.heap.size w) _) _).trans (hbel.mono (by simp; omega))
  have HA1 := hid (HA0.out.below HW1.out); have OB1 := hid hob
  clear hbel hob HA0
  obtain ⟨za, x0, x1, x2⟩ := hbx
  have C1 : Hid (∀ W, Below w1.heap.size w1 W → Calls Tryz.prog 57 #[.agg #[.bool sa, .slice xa na ca, .slice ya ma da]] W fun e w' => e = .returned (.agg #[.bool sa, .slice xa na ca]) ∧ Below W.heap.size W w') := fun W _ => numer_c sa xa ya na ca ma da W
  have C2 : Hid (∀ W, Below w1.heap.size w1 W → Calls Tryz.prog 63 #[.agg #[.bool sa, .slice xa na ca, .slice ya ma da]] W fun e w' => e = .returned (.agg #[.bool false, .slice ya ma da]) ∧ Below W.heap.size W w') := fun W _ => denom_c sa xa ya na ca ma da W
  have C3 : Hid (∀ W, Below w1.heap.size w1 W → Calls Tryz.prog 11 #[.agg #[.bool sa, .slice xa na ca], .agg #[.bool false, .slice ya ma da]] W fun e w' => ∃ r1 p1 k1 c1 q r2 p2 k2 c2, e = .returned (.tuple #[.agg #[.bool r1, .slice p1 k1 c1], .agg #[.bool r2, .slice p2 k2 c2], .int .i64 0]) ∧ Below W.heap.size W w' ∧ Hid (WRes (na + 2) W w' r1 p1 k1 c1 q ∧ wv r1 q k1 = a.floor)) := fun W hW => by
    have hh := HA1.out.below hW
    refine (wDivide_c sa false xa ya na ma ca da fa ga W (by omega) (by omega) hh.num.rd hh.den.rd hh.num.lm hh.den.lm).mono ?_
    rintro e w' ⟨r1, p1, k1, c1, q, r2, p2, k2, c2, r, er, rfl, h1, h2, h3⟩
    have hd := a.den_pos
    have hm0 : 0 < ma := hh.den.pos (by omega)
    rcases h3 with ⟨_, _, rfl, h4⟩ | ⟨_, h4, _⟩ | ⟨h4, _⟩
    · refine ⟨r1, p1, k1, c1, q, r2, p2, k2, c2, rfl, h1.res.bel, h1, ?_⟩
      rw [hh.num.val, hh.den.val] at h4
      rw [flr_ediv (by omega) h4, rfloor]
    · omega
    · exact absurd ⟨hh.num.wf, hh.den.wf⟩ h4
  go_upto_region 3 with fail
  go_cut [4, 5, 6] from 11 to 19 (fun u v t wx => ∃ b4 b5 s z k c, u = .pointer (some ⟨b4, 0, none⟩) ∧ v = .pointer (some ⟨b5, 0, none⟩) ∧ t = .int .i64 0 ∧ FlAt L w1 wx b4 s z k c a.floor)
  case first =>
    go_region_held3 (fun w' => w'.cell? ⟨w.heap.size, 0, none⟩ = some (.bool sa) ∧ w'.cell? ⟨w.heap.size, 1, none⟩ = some (.slice xa na ca) ∧ w'.cell? ⟨w.heap.size, 2, none⟩ = some (.slice ya ma da))
      (refine ⟨?_, ?_, ?_⟩ <;> repeat (with_reducible first | assumption | refine kCd ?_ | refine kCa ?_ | refine kCs (by simp only [ne_eq]; omega) ?_ | refine kCb (by assumption) ?_))
      (first
        | (go_at_call 57; with_reducible refine (C1.out _ (by repeat (with_reducible first | assumption | exact Below.refl _ _ | refine Below.drew ?_ | refine kBa ?_ | refine kBb (by assumption) ?_))).mono ?_; rintro e w3 ⟨rfl, hb3⟩; have hza := hb3.size; (try simp at hza); obtain ⟨hc3, hf3⟩ := bcell hb3; (try have q100 : w1.heap.size < w3.heap.size := by omega); (try have q101 : w1.heap.size + 1 < w3.heap.size := by omega))
        | (go_at_call 63; with_reducible refine (C2.out _ (by repeat (with_reducible first | assumption | exact Below.refl _ _ | refine Below.drew ?_ | refine kBa ?_ | refine kBb (by assumption) ?_))).mono ?_; rintro e w4 ⟨rfl, hb4⟩; have hzb := hb4.size; (try simp at hzb); obtain ⟨hc4, hf4⟩ := bcell hb4; (try have q100 : w1.heap.size < w4.heap.size := by omega); (try have q101 : w1.heap.size + 1 < w4.heap.size := by omega); (try have q102 : w3.heap.size < w4.heap.size := by omega); (try have q103 : w3.heap.size + 1 < w4.heap.size := by omega))
        | (go_at_call 11; with_reducible refine (C3.out _ (by repeat (with_reducible first | assumption | exact Below.refl _ _ | refine Below.drew ?_ | refine kBa ?_ | refine kBb (by assumption) ?_))).mono ?_; rintro e w5 ⟨r1, p1, k1, c1, q, r2, p2, k2, c2, rfl, hb5, HD⟩; have hzc := hb5.size; (try simp at hzc); obtain ⟨hc5, hf5⟩ := bcell hb5; (try have q100 : w1.heap.size < w5.heap.size := by omega); (try have q101 : w1.heap.size + 1 < w5.heap.size := by omega); (try have q102 : w3.heap.size < w5.heap.size := by omega); (try have q103 : w3.heap.size + 1 < w5.heap.size := by omega); (try have q104 : w4.heap.size < w5.heap.size := by omega); (try have q105 : w4.heap.size + 1 < w5.heap.size := by omega)))
    all_goals
      go_wp2_with fail
      go_meet
      refine ⟨_, _, r1, p1, k1, c1, rfl, rfl, rfl, fl_of b1 (by repeat (with_reducible first | assumption | exact Below.refl _ _ | refine Below.drew ?_ | refine kBa ?_ | refine kBb (by assumption) ?_)) HD.out (by repeat (with_reducible first | exact Turned.refl _ _ _ | refine Turned.drew ?_ | refine Turned.alloc ?_ _ | refine Turned.set ?_ (by first | omega | (simp; done) | (simp; omega)) (by first | omega | (simp; done) | (simp; omega)) _)) ⟨(by first | omega | (simp; done) | (simp; omega)), (by repeat (with_reducible first | assumption | exact kN0 | exact kN1 | (refine kM0 ?_; (simp <;> fail)) | (refine kM1 ?_; (simp <;> fail)) | exact kI0 kN0 | exact kI0 kN1 | (refine kI0 (kM0 ?_); (simp <;> fail)) | (refine kI0 (kM1 ?_); (simp <;> fail)) | refine kCd ?_ | refine kCe ?_ | refine kCo (by decide) ?_ | refine kCs (by simp only [ne_eq]; omega) ?_ | refine kCa ?_ | refine kCb (by assumption) ?_ | refine kId ?_ | refine kIs ?_ | refine kIa ?_ | refine kIb (by assumption) ?_)), (by repeat (with_reducible first | assumption | exact kN0 | exact kN1 | (refine kM0 ?_; (simp <;> fail)) | (refine kM1 ?_; (simp <;> fail)) | exact kI0 kN0 | exact kI0 kN1 | (refine kI0 (kM0 ?_); (simp <;> fail)) | (refine kI0 (kM1 ?_); (simp <;> fail)) | refine kCd ?_ | refine kCe ?_ | refine kCo (by decide) ?_ | refine kCs (by simp only [ne_eq]; omega) ?_ | refine kCa ?_ | refine kCb (by assumption) ?_ | refine kId ?_ | refine kIs ?_ | refine kIa ?_ | refine kIb (by assumption) ?_))⟩⟩
  case rest =>
    obtain ⟨b4, b5, s, z, k, c, rfl, rfl, rfl, hbx, hbel, ⟨f, hwn⟩, hle⟩ := hcut
    have OB2' := hid (OB1.out.below hbel); have HW2 := hid (HW1.out.trans (hbel.mono HW1.out.size)); have WN := hid hwn
    clear hbel hwn x0 x1 x2 za C1 C2 C3 OB1 HW1
    obtain ⟨zb, y0, y1⟩ := hbx
    obtain ⟨hz, z0, z1, zf⟩ := OB2'.out
    go_wp2
    exact bodyPost_ret (v := .tuple #[.agg #[.bool s, .slice z k c], .int .i64 0]) (by simp [results, Tryz.results30, go_sem, z0, z1]) rfl ⟨s, z, k, c, f, rfl, below_st2 HW2.out (by omega), hle, OB2'.out.wn WN.out⟩
end Go.Proofs.YtgklbedaebiglaaGreatDoor
namespace Go.Proofs.YtgklbedaebiglaaGreatDoor
open Go.RowKit

/-- Two boxes of three cells. -/
theorem two_new {w w1 : World} {a0 a1 a2 b0 b1 b2 : Value} {t : TypeId} (hb : Below ((w.alloc (.cells #[a0, a1, a2] t)).alloc (.cells #[b0, b1, b2] t)).heap.size ((w.alloc (.cells #[a0, a1, a2] t)).alloc (.cells #[b0, b1, b2] t)) w1) :
    Bx3 w1 w.heap.size a0 a1 a2 ∧ Bx3 w1 (w.heap.size + 1) b0 b1 b2 ∧ Below w.heap.size w w1 := by
  have h2 := bx3_at (w.alloc (.cells #[a0, a1, a2] t)) b0 b1 b2 t
  rw [size_alloc1] at h2
  exact ⟨((bx3_at w a0 a1 a2 t).alloc _).below hb, h2.below hb, (below_alloc (below_alloc (Below.refl w.heap.size w) _) _).trans (hb.mono (by simp; omega))⟩
theorem beq_bool_true {s t : Bool} (h : s = t) : (s == t) = true := by subst h; cases s <;> rfl
theorem beq_bool_false {s t : Bool} (h : ¬ s = t) : (s == t) = false := by cases s <;> cases t <;> first | rfl | exact absurd rfl h
set_option maxHeartbeats 1000000 in
theorem rSame_c (sa : Bool) (xa ya : Option Addr) (na ca ma da : Nat) (fa ga : Nat → Int) (sb : Bool) (xb yb : Option Addr) (nb cb mb db : Nat) (fb gb : Nat → Int) (w : World) (h1 : Rd .u64 w xa na fa) (h2 : Rd .u64 w ya ma ga) (h3 : Rd .u64 w xb nb fb) (h4 : Rd .u64 w yb mb gb) (l1 : na ≤ 140737488355328) (l2 : ma ≤ 140737488355328) (l3 : nb ≤ 140737488355328) (l4 : mb ≤ 140737488355328) :
    Calls Tryz.prog 26 #[.agg #[.bool sa, .slice xa na ca, .slice ya ma da], .agg #[.bool sb, .slice xb nb cb, .slice yb mb db]] w fun e w' => ∃ b, e = .returned (.bool b) ∧ Below w.heap.size w w' ∧ (b = true ↔ sa = sb ∧ Alk na nb fa fb ∧ Alk ma mb ga gb) := by
  have H1 := hid h1; have H2 := hid h2; have H3 := hid h3; have H4 := hid h4
  clear h1 h2 h3 h4
  by_cases hs : sa = sb
  · have hse := beq_bool_true hs
    have HS := hid hs
    clear hs
    go_enter Tryz.func26, Tryz.ntmps26
    go_wp2_with fail
    refine (same_c xa xb na nb ca cb fa fb _ l1 l3 ((H1.out.alloc _).alloc _) ((H3.out.alloc _).alloc _)).mono ?_
    rintro e w1 ⟨⟨q, hq⟩, b, rfl, hb1⟩
    obtain ⟨⟨za, x0, x1, x2⟩, ⟨zb, y0, y1, y2⟩, hw⟩ := two_new (drewN_below hq)
    have HW1 := hid hw; have HB1 := hid hb1
    clear hq hw hb1
    cases b
    · go_wp2
      go_ret
      exact ⟨false, rfl, HW1.out, (fun h => by cases h), fun h => HB1.out.2 h.2.1⟩
    · go_wp2_with fail
      refine (same_c ya yb ma mb da db ga gb _ l2 l4 (H2.out.below HW1.out (Nat.le_refl _)) (H4.out.below HW1.out (Nat.le_refl _))).mono ?_
      rintro e w2 ⟨⟨q, hq⟩, b, rfl, hb2⟩
      have HW2 := hid (HW1.out.trans ((drewN_below hq).mono HW1.out.size)); have HB2 := hid hb2
      clear hq hb2
      go_wp2
      go_ret
      exact ⟨b, rfl, HW2.out, fun h => ⟨HS.out, HB1.out.1 (by simp), HB2.out.1 h⟩, fun h => HB2.out.2 h.2.2⟩
  · have hse := beq_bool_false hs
    have HS := hid hs
    clear hs
    go_enter Tryz.func26, Tryz.ntmps26
    go_wp2
    go_ret
    exact ⟨false, rfl, below_alloc (below_alloc (Below.refl _ _) _) _, (fun h => by cases h), fun h => absurd h.1 HS.out⟩
theorem rSame_n {L L' w sa xa na ca fa ya ma da ga a sb xb nb cb fb yb mb db gb b} (ha : Rn L w sa xa na ca fa ya ma da ga a) (hb : Rn L' w sb xb nb cb fb yb mb db gb b) (h1 : L ≤ 4096) (h2 : L' ≤ 4096) :
    Calls Tryz.prog 26 #[.agg #[.bool sa, .slice xa na ca, .slice ya ma da], .agg #[.bool sb, .slice xb nb cb, .slice yb mb db]] w fun e w' => e = .returned (.bool (decide (a = b))) ∧ Below w.heap.size w w' := by
  have l1 := ha.ln; have l2 := ha.ld; have l3 := hb.ln; have l4 := hb.ld
  refine (rSame_c sa xa ya na ca ma da fa ga sb xb yb nb cb mb db fb gb w ha.num.rd ha.den.rd hb.num.rd hb.den.rd (by omega) (by omega) (by omega) (by omega)).mono ?_
  rintro e w' ⟨c, rfl, h3, h4⟩
  refine ⟨?_, h3⟩
  have h5 := h4.trans (ha.inj hb)
  cases c
  · have : ¬ (a = b) := fun h => by have := h5.2 h; cases this
    simp [this]
  · simp [h5.1 rfl]
def lg (n m k : Nat) : Bool := decide (n ≤ k) && decide (m ≤ k)
theorem rLight_c (s : Bool) (x y : Option Addr) (n c m d : Nat) (w : World) (hn : n ≤ 9223372036854775807) (hm : m ≤ 9223372036854775807) :
    Calls Tryz.prog 21 #[.agg #[.bool s, .slice x n c, .slice y m d], .int .i64 20] w fun e w' => e = .returned (.bool (lg n m 20)) ∧ Below w.heap.size w w' := by
  by_cases h1 : n ≤ 20
  · have d1 : decide ((n : Int) ≤ 20) = true := by simp; omega
    by_cases h2 : m ≤ 20
    · have d2 : decide ((m : Int) ≤ 20) = true := by simp; omega
      rw [show lg n m 20 = true by simp [lg, h1, h2]]
      go_enter Tryz.func21, Tryz.ntmps21
      go_wp2
      go_ret
      exact ⟨rfl, below_alloc (Below.refl _ _) _⟩
    · have d2 : decide ((m : Int) ≤ 20) = false := by simp; omega
      rw [show lg n m 20 = false by simp [lg, h2]]
      go_enter Tryz.func21, Tryz.ntmps21
      go_wp2
      go_ret
      exact ⟨rfl, below_alloc (Below.refl _ _) _⟩
  · have d1 : decide ((n : Int) ≤ 20) = false := by simp; omega
    rw [show lg n m 20 = false by simp [lg, h1]]
    go_enter Tryz.func21, Tryz.ntmps21
    go_wp2
    go_ret
    exact ⟨rfl, below_alloc (Below.refl _ _) _⟩
set_option maxHeartbeats 1000000 in
theorem rlight2_c (sa : Bool) (xa ya : Option Addr) (na ca ma da : Nat) (sb : Bool) (xb yb : Option Addr) (nb cb mb db : Nat) (w : World) (l1 : na ≤ 9223372036854775807) (l2 : ma ≤ 9223372036854775807) (l3 : nb ≤ 9223372036854775807) (l4 : mb ≤ 9223372036854775807) :
    Calls Tryz.prog 20 #[.agg #[.bool sa, .slice xa na ca, .slice ya ma da], .agg #[.bool sb, .slice xb nb cb, .slice yb mb db]] w fun e w' => e = .returned (.bool (lg na ma 20 && lg nb mb 20)) ∧ Below w.heap.size w w' := by
  go_enter Tryz.func20, Tryz.ntmps20
  go_wp2_with fail
  refine (rLight_c sa xa ya na ca ma da _ l1 l2).mono ?_
  rintro e w1 ⟨rfl, hb⟩
  obtain ⟨⟨za, x0, x1, x2⟩, ⟨zb, y0, y1, y2⟩, hw⟩ := two_new hb
  have HW1 := hid hw
  clear hb hw
  cases h1 : lg na ma 20
  · have E : Hid ((lg na ma 20 && lg nb mb 20) = false) := hid (by rw [h1]; rfl)
    go_wp2
    go_ret
    exact ⟨by rw [E.out]; rfl, HW1.out⟩
  · have E : Hid ((lg na ma 20 && lg nb mb 20) = lg nb mb 20) := hid (by rw [h1]; rfl)
    clear h1
    go_wp2_with fail
    refine (rLight_c sb xb yb nb cb mb db _ l3 l4).mono ?_
    rintro e w2 ⟨rfl, hb⟩
    go_wp2
    go_ret
    exact ⟨by rw [E.out]; rfl, HW1.out.trans (hb.mono HW1.out.size)⟩
end Go.Proofs.YtgklbedaebiglaaGreatDoor
namespace Go.Proofs.YtgklbedaebiglaaGreatDoor
open Go.RowKit

theorem cut42_c (w : World) : Calls Tryz.prog 86 #[.string ⟨#[52, 47, 50]⟩, .string ⟨#[47]⟩] w fun e w' => e = .returned (.tuple #[.string ⟨#[52]⟩, .string ⟨#[50]⟩, .bool true]) ∧ Below w.heap.size w w' := by
  have C1 : Hid (∀ W, Calls Tryz.prog 141 #[.string ⟨#[52, 47, 50]⟩, .string ⟨#[47]⟩] W fun e w' => e = .returned (.int .i64 1) ∧ w' = W) := fun W => Tryz.stringslite_Index_one ⟨#[52, 47, 50]⟩ 47 W
  have c2 : ∀ W, Calls Tryz.prog 118 #[.string ⟨#[52, 47, 50]⟩, .string ⟨#[47]⟩] W fun e w' => e = .returned (.tuple #[.string ⟨#[52]⟩, .string ⟨#[50]⟩, .bool true]) ∧ Below W.heap.size W w' := fun W => by
    go_enter Tryz.func118, Tryz.ntmps118
    go_wp2_with fail
    refine (C1.out _).mono ?_
    rintro e w1 ⟨rfl, rfl⟩
    go_wp2
    go_quiet (fail)
    go_wp2
    have e1 : (ByteArray.mk #[52, 47, 50]).extract 0 1 = ⟨#[52]⟩ := by decide +kernel
    have e2 : (ByteArray.mk #[52, 47, 50]).extract 2 3 = ⟨#[50]⟩ := by decide +kernel
    exact bodyPost_ret (v := .tuple #[.string ⟨#[52]⟩, .string ⟨#[50]⟩, .bool true]) (by simp [results, Tryz.results118, go_sem, e1, e2]) rfl ⟨rfl, below_drewN (Below.refl _ _) _⟩
  have C2 := hid c2
  clear c2 C1
  go_enter Tryz.func86, Tryz.ntmps86
  go_wp2_with fail
  refine (C2.out _).mono ?_
  rintro e w1 ⟨rfl, hb⟩
  go_wp2
  exact bodyPost_ret (v := .tuple #[.string ⟨#[52]⟩, .string ⟨#[50]⟩, .bool true]) (by simp [results, Tryz.results86, go_sem]) rfl ⟨rfl, hb⟩
theorem sb_4 : Sb ⟨#[52]⟩ 1 (fun _ => 52) := ⟨rfl, fun k h => by
  have hk : k < 1 := h
  obtain rfl : k = 0 := by omega
  rfl⟩
theorem sb_2 : Sb ⟨#[50]⟩ 1 (fun _ => 50) := ⟨rfl, fun k h => by
  have hk : k < 1 := h
  obtain rfl : k = 0 := by omega
  rfl⟩
theorem read_4 {r : Bool} {k : Nat} {f : Nat → Int} {er : Int} (h : WRead 1 (fun _ => 52) r k f er) : er = 0 ∧ wv r f k = 4 := by
  have hn : IsNum (fun _ => 52) 1 := ⟨(digB_iff _ _).1 (by decide), by decide, .inl rfl⟩
  have hd : dn (fun _ => 52) 1 = 4 := by decide
  rcases h with ⟨h1, _⟩ | ⟨_, _, h1, _⟩ | ⟨_, _, _, h1, h2⟩ | ⟨_, _, h1, _⟩
  · omega
  · exact absurd h1 (by decide)
  · rw [hd] at h2; exact ⟨h1, h2⟩
  · exact absurd ⟨fun h => absurd h.2 (by decide), hn⟩ h1
theorem read_2 {k : Nat} {f : Nat → Int} {er : Int} (h : ReadAns 1 (fun _ => 50) k f er) : er = 0 ∧ vf f k = 2 := by
  have hn : IsNum (fun _ => 50) 1 := ⟨(digB_iff _ _).1 (by decide), by decide, .inl rfl⟩
  have hd : dn (fun _ => 50) 1 = 2 := by decide
  rcases h with ⟨h1, _⟩ | ⟨_, h1, _⟩ | ⟨_, _, h1, h2⟩
  · omega
  · exact absurd hn h1
  · rw [hd] at h2; exact ⟨h1, h2⟩
theorem readDen2_c (w : World) : Calls Tryz.prog 88 #[.string ⟨#[50]⟩] w fun e w' => ∃ x k c f, e = .returned (.tuple #[.slice x k c, .int .i64 0]) ∧ Below w.heap.size w w' ∧ Wn w' false x k c f 2 := by
  go_enter Tryz.func88, Tryz.ntmps88
  go_wp2_with fail
  refine (Read_c ⟨#[50]⟩ 1 _ _ sb_2).mono ?_
  rintro e w1 ⟨x, k, c, f, er, rfl, hres, hans⟩
  have hr := hres.ans (by omega)
  obtain ⟨rfl, hv⟩ := read_2 hans
  have hb := hr.bel
  have hw : Wn w1 false x k c f 2 := ⟨hr.rd, hr.lm, (wfB_iff _ _ _).2 ⟨hr.fm, fun h => by cases h⟩, hr.ncap, hr.nil', hv⟩
  have C2 := hid (isOne_c hw); have HB := hid hb; have HW := hid hw
  clear hres hans hr hv hb hw
  go_wp2_with fail
  refine C2.out.mono ?_
  rintro e w2 ⟨rfl, rfl⟩
  have hd : decide ((2 : Int) = 1) = false := by decide
  rw [hd]
  go_wp2
  go_ret2
  exact ⟨x, k, c, f, rfl, HB.out, HW.out⟩
theorem rf_42 {s f n g m} (h1 : vf f n = 4) (h2 : vf g m = 2) : rfB s f n g m = false := by
  simp only [rfB, h1, h2]
  have : decide ((4 : Int).toNat.gcd (2 : Int).toNat = 1) = false := by decide
  rw [this]; simp
set_option maxRecDepth 100000 in
set_option maxHeartbeats 4000000 in
theorem read42_c (w : World) : Calls Tryz.prog 56 #[.string ⟨#[52, 47, 50]⟩] w fun e w' => ∃ s x n c y m d, e = .returned (.tuple #[.agg #[.bool s, .slice x n c, .slice y m d], .int .i64 11]) ∧ Below w.heap.size w w' := by
  have h3 := ob_new w 40
  have h4 := below_alloc (Below.refl w.heap.size w) (.cells #[.bool false, .slice none 0 0, .slice none 0 0] 40)
  have hsz : ((ByteArray.mk #[52, 47, 50]).size : Int) = 3 := by decide
  go_enter Tryz.func56, Tryz.ntmps56
  go_wp2_with fail
  generalize w.alloc (.cells #[.bool false, .slice none 0 0, .slice none 0 0] 40) = w1 at *
  have OB1 := hid h3; have HW1 := hid h4
  clear h3 h4
  refine (cut42_c _).mono ?_
  rintro e w2 ⟨rfl, hb⟩
  have OB2 := hid (OB1.out.below hb); have HW2 := hid (HW1.out.trans (hb.mono HW1.out.size))
  clear hb OB1 HW1
  go_wp2_with fail
  refine (wRead_c ⟨#[52]⟩ 1 _ _ sb_4 (by omega)).mono ?_
  rintro e w3 ⟨s3, x3, k3, c3, f3, er, rfl, hr, hans⟩
  obtain ⟨rfl, hv⟩ := read_4 hans
  have hb := hr.res.bel
  have WA3 := hid (hr.wn hv); have OB3 := hid (OB2.out.below hb); have HW3 := hid (HW2.out.trans (hb.mono HW2.out.size))
  clear hb hr hans hv OB2 HW2
  go_wp2_with fail
  refine (ratOne_c _).mono ?_
  rintro e w4 ⟨x4, f4, rfl, hb, _⟩
  have BA4 := hid (bx_new hb); have WA4 := hid (WA3.out.next hb); have OB4 := hid (OB3.out.next hb); have HW4 := hid ((below_alloc HW3.out _).trans (hb.mono (below_alloc HW3.out _).size))
  clear hb OB3 HW3 WA3
  go_wp2_with fail
  refine (readDen2_c _).mono ?_
  rintro e w5 ⟨x5, k5, c5, f5, rfl, hb, hd⟩
  have WD5 := hid hd; have BA5 := hid (BA4.out.below hb); have WA5 := hid (WA4.out.below hb); have OB5 := hid (OB4.out.below hb); have HW5 := hid (HW4.out.trans (hb.mono HW4.out.size))
  clear hb hd BA4 WA4 OB4 HW4
  obtain ⟨za, a0, a1⟩ := BA5.out
  go_wp2_with fail
  refine (rsigned_c s3 x3 x5 k3 c3 k5 c5 _ (by have := WA5.out.cap; omega)).mono ?_
  rintro e w6 ⟨r6, rfl, _, hb⟩
  have WD6 := hid (WD5.out.below hb); have WA6 := hid (WA5.out.below hb); have OB6 := hid (OB5.out.below hb); have HW6 := hid (HW5.out.trans (hb.mono HW5.out.size))
  clear hb za a0 a1 BA5 WA5 WD5 OB5 HW5
  have k3le := WA6.out.len1 (by decide)
  have k5le := WD6.out.len1 (by decide)
  have hrf : rfB r6 f3 k3 f5 k5 = false := by
    refine rf_42 ?_ WD6.out.nv
    have := WA6.out.mag.nv; exact this
  have HRF := hid hrf
  clear hrf
  go_wp2_with fail
  refine (rForm_c (s := r6) (⟨(WA6.out.alloc _).rd, WA6.out.lm, WA6.out.cap, WA6.out.nil, (WD6.out.alloc _).rd, WD6.out.lm, WD6.out.cap, WD6.out.nil⟩ : Rw _ x3 k3 c3 f3 x5 k5 c5 f5) (by omega) (by omega)).mono ?_
  rintro e w7 ⟨rfl, hb⟩
  rw [HRF.out]
  have OB7 := hid (OB6.out.next hb); have HW7 := hid ((below_alloc HW6.out _).trans (hb.mono (below_alloc HW6.out _).size))
  clear hb OB6 HW6 WA6 WD6
  obtain ⟨hz, z0, z1, z2, zf⟩ := OB7.out
  go_wp2
  exact bodyPost_ret (v := .tuple #[.agg #[.bool false, .slice none 0 0, .slice none 0 0], .int .i64 11]) (by simp [results, Tryz.results56, go_sem, z0, z1, z2]) rfl ⟨false, none, 0, 0, none, 0, 0, rfl, below_st HW7.out (Nat.le_refl _)⟩
end Go.Proofs.YtgklbedaebiglaaGreatDoor
namespace Go.Proofs.YtgklbedaebiglaaGreatDoor
open Go.RowKit

theorem dec_3 : Lib.decDigits 3 = [51] := by decide +kernel
theorem dec_2 : Lib.decDigits 2 = [50] := by decide +kernel
theorem wtxt_m3 {s : Bool} {f : Nat → Int} {n : Nat} (hf : Lm f n) (hw : wfB s f n = true) (hv : wv s f n = -3) : wtxt s f n = ⟨#[45, 51]⟩ ∧ wter s f n = 0 := by
  have h0 := vf_nonneg hf
  have hfm : fmB f n = true := (fmB_iff f n).2 (fm_of_wfB hw)
  cases s
  · rw [wv_false] at hv; omega
  · rw [wv_true] at hv
    have e : (vf f n).toNat = 3 := by omega
    refine ⟨?_, by simp [wter, hw]⟩
    unfold wtxt txt
    rw [if_pos hw, if_pos rfl, if_pos hfm, e, dec_3]
    rfl
theorem txt_2 {f : Nat → Int} {n : Nat} (hf : Fm f n) (hv : vf f n = 2) : txt f n = ⟨#[50]⟩ ∧ ter f n = 0 := by
  have hfm : fmB f n = true := (fmB_iff f n).2 hf
  have e : (vf f n).toNat = 2 := by omega
  refine ⟨?_, by simp [ter, hfm]⟩
  unfold txt
  rw [if_pos hfm, e, dec_2]
set_option maxRecDepth 100000 in
set_option maxHeartbeats 4000000 in
theorem text32_c {L w s x n c f y m d g q} (h : Rn L w s x n c f y m d g q) (hL : L ≤ 1000) (t1 : Tg w x) (t2 : Tg w y) (htab : Tab w) (h1 : q.num = -3) (h2 : q.den = 2) :
    Calls Tryz.prog 55 #[.agg #[.bool s, .slice x n c, .slice y m d]] w fun e w' => e = .returned (.tuple #[.string ⟨#[45, 51, 47, 50]⟩, .int .i64 0]) ∧ Below w.heap.size w w' := by
  have HR := hid h; have T1 := hid t1; have T2 := hid t2; have HTab := hid htab
  have b1 := h.ln; have b2 := h.ld
  have e1 := wtxt_m3 h.num.lm h.num.wf (h.num.val.trans h1)
  have e2 := txt_2 h.den.fm (h.den.nv.trans (by rw [h2]; rfl))
  have E1 := hid e1; have E2 := hid e2; have H2 := hid h2
  clear h t1 t2 htab e1 e2 h1 h2
  go_enter Tryz.func55, Tryz.ntmps55
  go_wp2_with fail
  refine (rForm_n (HR.out.alloc _) (by omega)).mono ?_
  rintro e w1 ⟨rfl, hb⟩
  have B1 := hid (bx3_new hb); have HW1 : Hid (Below w.heap.size w w1) := (below_alloc (Below.refl w.heap.size w) _).trans (hb.mono (by simp))
  clear hb
  obtain ⟨z, x0, x1, x2⟩ := B1.out
  go_wp2_with fail
  refine (numer_c s x y n c m d _).mono ?_
  rintro e w2 ⟨rfl, hb⟩
  have B2 := hid (B1.out.below hb); have HW2 := hid (HW1.out.trans (hb.mono HW1.out.size))
  clear hb B1 HW1 z x0 x1 x2
  obtain ⟨z, x0, x1, x2⟩ := B2.out
  have R2 := hid (HR.out.below HW2.out)
  have ct := wText_c s x n c f w2 (by omega) R2.out.num.rd (T1.out.kept HW2.out) R2.out.num.lm (HTab.out.below HW2.out HTab.out.lt) R2.out.num.cap.1 R2.out.num.cap.2
  rw [E1.out.1, E1.out.2] at ct
  have CT := hid ct
  clear ct
  go_wp2_with fail
  refine CT.out.mono ?_
  rintro e w3 ⟨rfl, hb⟩
  have B3 := hid (B2.out.below hb); have HW3 := hid (HW2.out.trans (hb.mono HW2.out.size)); have R3 := hid (R2.out.below hb)
  clear hb B2 HW2 R2 CT z x0 x1 x2
  obtain ⟨z, x0, x1, x2⟩ := B3.out
  have c4 := isOne_c R3.out.den
  rw [show decide ((q.den : Int) = 1) = false by rw [H2.out]; decide] at c4
  have C4 := hid c4
  clear c4
  have cd := TextAll_c y m d g w3 (by omega) R3.out.den.rd (T2.out.kept HW3.out) R3.out.den.lm (HTab.out.below HW3.out HTab.out.lt) R3.out.den.cap.1 R3.out.den.cap.2
  rw [E2.out.1, E2.out.2] at cd
  have CD := hid cd
  clear cd
  go_wp2_with fail
  refine C4.out.mono ?_
  rintro e w4 ⟨rfl, rfl⟩
  go_wp2_with fail
  refine CD.out.mono ?_
  rintro e w5 ⟨rfl, hb⟩
  have HW5 := hid (HW3.out.trans (hb.mono HW3.out.size))
  clear hb
  go_wp2
  go_ret2
  exact ⟨by first | rfl | decide +kernel, HW5.out⟩
end Go.Proofs.YtgklbedaebiglaaGreatDoor
namespace Go.Proofs.YtgklbedaebiglaaGreatDoor
open Go.RowKit

theorem q_a : ((6 : Int) : Rat) / ((-4 : Int) : Rat) = ((-3 : Int) : Rat) / ((2 : Int) : Rat) := by decide +kernel
theorem q_b : ((1 : Int) : Rat) / ((6 : Int) : Rat) + ((1 : Int) : Rat) / ((3 : Int) : Rat) = ((1 : Int) : Rat) / ((2 : Int) : Rat) := by decide +kernel
theorem q_c : (((-1 : Int) : Rat) / ((2 : Int) : Rat)).floor = -1 := by decide +kernel
theorem q_n : (((-3 : Int) : Rat) / ((2 : Int) : Rat)).num = -3 := by decide +kernel
theorem q_d : (((-3 : Int) : Rat) / ((2 : Int) : Rat)).den = 2 := by decide +kernel
theorem rf_none : rfB false (fun _ => 0) 0 (fun _ => 0) 0 = false := by decide
set_option maxRecDepth 100000 in
set_option maxHeartbeats 8000000 in
theorem rAwake_c (w : World) (htab : Tab w) : Calls Tryz.prog 19 #[] w fun e w' => e = .returned (.bool true) ∧ Below w.heap.size w w' := by
  have HTab := hid htab
  clear htab
  go_enter Tryz.func19, Tryz.ntmps19
  go_wp2_with fail
  refine (docOf_c 6 _ (by decide) (by decide)).mono ?_
  rintro e w1 ⟨s1, x1, k1, c1, f1, rfl, hr, hv⟩
  have HW1 := hid hr.res.bel; have WA1 := hid (hr.wn hv)
  have hk1 := (hr.wn hv).len1 (by decide)
  clear hr hv
  go_wp2_with fail
  refine (docOf_c (-4) _ (by decide) (by decide)).mono ?_
  rintro e w2 ⟨s2, x2, k2, c2, f2, rfl, hr, hv⟩
  have hb := hr.res.bel; have WB2 := hid (hr.wn hv)
  have hk2 := (hr.wn hv).len1 (by decide)
  clear hr hv
  have WA2 := hid (WA1.out.below hb); have HW2 := hid (HW1.out.trans (hb.mono HW1.out.size))
  clear WA1 HW1 hb
  go_wp2_with fail
  refine (rMake_n (L := 1) WA2.out WB2.out (by decide) hk1 hk2 (by decide)).mono ?_
  rintro e w3 ⟨sA, xA, nA, cA, fA, yA, mA, dA, gA, rfl, hb, hr⟩
  rw [q_a] at hr
  have RA3 := hid hr
  clear hr WA2 WB2
  have HW3 := hid (HW2.out.trans (hb.mono HW2.out.size))
  clear HW2 hb
  go_wp2_with fail
  refine (num_c _ (1) 6 (by decide) (by decide) (by decide) (by decide)).mono ?_
  rintro e w4 ⟨sp, xp, np, cp, fp, yp, mp, dp, gp, rfl, hb, hr, ht1, ht2⟩
  have Rp4 := hid hr
  have BA4 := hid (bx3_new hb)
  clear hr ht1 ht2
  have RA4 := hid (RA3.out.next hb); have HW4 := hid ((below_alloc HW3.out _).trans (hb.mono (below_alloc HW3.out _).size))
  clear RA3 HW3 hb
  go_wp2_with fail
  refine (num_c _ (1) 3 (by decide) (by decide) (by decide) (by decide)).mono ?_
  rintro e w5 ⟨sq, xq, nq, cq, fq, yq, mq, dq, gq, rfl, hb, hr, ht1, ht2⟩
  have Rq5 := hid hr
  clear hr ht1 ht2
  have RA5 := hid (RA4.out.below hb); have BA5 := hid (BA4.out.below hb); have Rp5 := hid (Rp4.out.below hb); have HW5 := hid (HW4.out.trans (hb.mono HW4.out.size))
  clear RA4 BA4 Rp4 HW4 hb
  go_wp2_with fail
  refine (rAdd_n Rp5.out Rq5.out (by decide)).mono ?_
  rintro e w6 ⟨sB, xB, nB, cB, fB, yB, mB, dB, gB, rfl, hb, hr⟩
  rw [q_b] at hr
  have RB6 := hid hr
  clear hr Rp5 Rq5
  have RA6 := hid (RA5.out.below hb); have BA6 := hid (BA5.out.below hb); have HW6 := hid (HW5.out.trans (hb.mono HW5.out.size))
  clear RA5 BA5 HW5 hb
  go_wp2_with fail
  refine (num_c _ (-1) 2 (by decide) (by decide) (by decide) (by decide)).mono ?_
  rintro e w7 ⟨sr, xr, nr, cr, fr, yr, mr, dr, gr, rfl, hb, hr, ht1, ht2⟩
  have Rr7 := hid hr
  have BB7 := hid (bx3_new hb)
  clear hr ht1 ht2
  have RA7 := hid (RA6.out.next hb); have BA7 := hid (BA6.out.next hb); have RB7 := hid (RB6.out.next hb); have HW7 := hid ((below_alloc HW6.out _).trans (hb.mono (below_alloc HW6.out _).size))
  clear RA6 BA6 RB6 HW6 hb
  go_wp2_with fail
  refine (rFloor_n Rr7.out (by decide)).mono ?_
  rintro e w8 ⟨sC, xC, nC, cC, fC, rfl, hb, hkC, hr⟩
  rw [q_c] at hr
  have WC8 := hid hr
  clear hr Rr7
  have RA8 := hid (RA7.out.below hb); have BA8 := hid (BA7.out.below hb); have RB8 := hid (RB7.out.below hb); have BB8 := hid (BB7.out.below hb); have HW8 := hid (HW7.out.trans (hb.mono HW7.out.size))
  clear RA7 BA7 RB7 BB7 HW7 hb
  go_wp2_with fail
  refine (num_c _ (-3) 2 (by decide) (by decide) (by decide) (by decide)).mono ?_
  rintro e w9 ⟨st, xt, nt, ct, ft, yt, mt, dt, gt, rfl, hb, hr, ht1, ht2⟩
  have Rt9 := hid hr
  have BC9 := hid (bx_new hb); have G1 := hid ht1; have G2 := hid ht2
  clear hr ht1 ht2
  have RA9 := hid (RA8.out.next hb); have BA9 := hid (BA8.out.next hb); have RB9 := hid (RB8.out.next hb); have BB9 := hid (BB8.out.next hb); have WC9 := hid (WC8.out.next hb); have HW9 := hid ((below_alloc HW8.out _).trans (hb.mono (below_alloc HW8.out _).size))
  clear RA8 BA8 RB8 BB8 WC8 HW8 hb
  go_wp2_with fail
  refine (text32_c Rt9.out (by decide) G1.out G2.out (HTab.out.below HW9.out HTab.out.lt) q_n q_d).mono ?_
  rintro e w10 ⟨rfl, hb⟩
  clear Rt9 G1 G2
  have RA10 := hid (RA9.out.below hb); have BA10 := hid (BA9.out.below hb); have RB10 := hid (RB9.out.below hb); have BB10 := hid (BB9.out.below hb); have WC10 := hid (WC9.out.below hb); have BC10 := hid (BC9.out.below hb); have HW10 := hid (HW9.out.trans (hb.mono HW9.out.size))
  clear RA9 BA9 RB9 BB9 WC9 BC9 HW9 hb
  go_wp2_with fail
  refine (read42_c _).mono ?_
  rintro e w11 ⟨sD, xD, nD, cD, yD, mD, dD, rfl, hb⟩
  have RA11 := hid (RA10.out.below hb); have BA11 := hid (BA10.out.below hb); have RB11 := hid (RB10.out.below hb); have BB11 := hid (BB10.out.below hb); have WC11 := hid (WC10.out.below hb); have BC11 := hid (BC10.out.below hb); have HW11 := hid (HW10.out.trans (hb.mono HW10.out.size))
  clear RA10 BA10 RB10 BB10 WC10 BC10 HW10 hb
  obtain ⟨za, a0, a1, a2⟩ := BA11.out
  obtain ⟨zb, b0, b1, b2⟩ := BB11.out
  obtain ⟨zc, c0, c1'⟩ := BC11.out
  have N1 : Hid (∀ W : World, Calls Tryz.prog 33 #[.int .i64 (-3), .int .i64 2] W fun e w' => ∃ s x n c f y m d g, e = .returned (.agg #[.bool s, .slice x n c, .slice y m d]) ∧ Below W.heap.size W w' ∧ Hid (Rn 2 w' s x n c f y m d g (((-3 : Int) : Rat) / ((2 : Int) : Rat)))) := fun W => (num_c W (-3) 2 (by decide) (by decide) (by decide) (by decide)).mono (fun e w' ⟨s, x, n, c, f, y, m, d, g, h1, h2, h3, _, _⟩ => ⟨s, x, n, c, f, y, m, d, g, h1, h2, h3⟩)
  have N2 : Hid (∀ W : World, Calls Tryz.prog 33 #[.int .i64 1, .int .i64 2] W fun e w' => ∃ s x n c f y m d g, e = .returned (.agg #[.bool s, .slice x n c, .slice y m d]) ∧ Below W.heap.size W w' ∧ Hid (Rn 2 w' s x n c f y m d g (((1 : Int) : Rat) / ((2 : Int) : Rat)))) := fun W => (num_c W 1 2 (by decide) (by decide) (by decide) (by decide)).mono (fun e w' ⟨s, x, n, c, f, y, m, d, g, h1, h2, h3, _, _⟩ => ⟨s, x, n, c, f, y, m, d, g, h1, h2, h3⟩)
  have S1 : Hid (∀ (W : World) (s : Bool) (x : Option Addr) (n c : Nat) (f : Nat → Int) (y : Option Addr) (m d : Nat) (g : Nat → Int), Below w11.heap.size w11 W → Rn 2 W s x n c f y m d g (((-3 : Int) : Rat) / ((2 : Int) : Rat)) → Calls Tryz.prog 26 #[.agg #[.bool sA, .slice xA nA cA, .slice yA mA dA], .agg #[.bool s, .slice x n c, .slice y m d]] W fun e w' => e = .returned (.bool true) ∧ Below W.heap.size W w') := fun W s x n c f y m d g hW hr => (rSame_n (RA11.out.below hW) hr (by decide) (by decide)).mono (fun e w' ⟨h1, h2⟩ => ⟨by rw [h1]; simp, h2⟩)
  have S2 : Hid (∀ (W : World) (s : Bool) (x : Option Addr) (n c : Nat) (f : Nat → Int) (y : Option Addr) (m d : Nat) (g : Nat → Int), Below w11.heap.size w11 W → Rn 2 W s x n c f y m d g (((1 : Int) : Rat) / ((2 : Int) : Rat)) → Calls Tryz.prog 26 #[.agg #[.bool sB, .slice xB nB cB, .slice yB mB dB], .agg #[.bool s, .slice x n c, .slice y m d]] W fun e w' => e = .returned (.bool true) ∧ Below W.heap.size W w') := fun W s x n c f y m d g hW hr => (rSame_n (RB11.out.below hW) hr (by decide) (by decide)).mono (fun e w' ⟨h1, h2⟩ => ⟨by rw [h1]; simp, h2⟩)
  have D1 : Hid (∀ W : World, Calls Tryz.prog 32 #[.int .i64 (-1)] W fun e w' => ∃ s x n c f, e = .returned (.agg #[.bool s, .slice x n c]) ∧ Below W.heap.size W w' ∧ Hid (n ≤ 1 ∧ Wn w' s x n c f (-1))) := fun W => (docOf_c (-1) W (by decide) (by decide)).mono (fun e w' ⟨s, x, n, c, f, h1, h2, h3⟩ => ⟨s, x, n, c, f, h1, h2.res.bel, (h2.wn h3).len1 (by decide), h2.wn h3⟩)
  have S3 : Hid (∀ (W : World) (s : Bool) (x : Option Addr) (n c : Nat) (f : Nat → Int), Below w11.heap.size w11 W → n ≤ 1 → Wn W s x n c f (-1) → Calls Tryz.prog 17 #[.agg #[.bool sC, .slice xC nC cC], .agg #[.bool s, .slice x n c]] W fun e w' => e = .returned (.bool true) ∧ Below W.heap.size W w') := fun W s x n c f hW hn hr => same_n (WC11.out.below hW) hr (by omega) (by omega)
  have F1 : Hid (∀ W : World, Calls Tryz.prog 22 #[.agg #[.bool false, .slice none 0 0, .slice none 0 0]] W fun e w' => e = .returned (.bool false) ∧ Below W.heap.size W w') := fun W => by
    have h := rForm_c (s := false) (⟨Rd.zero, (fun j hj => by omega), by omega, (fun _ => by omega), Rd.zero, (fun j hj => by omega), by omega, (fun _ => by omega)⟩ : Rw W none 0 0 (fun _ => 0) none 0 0 (fun _ => 0)) (by omega) (by omega)
    rw [rf_none] at h
    exact h
  go_wp2
  go_region_held3 (fun w' => w'.cell? ⟨w3.heap.size, 0, none⟩ = some (.bool sA) ∧ w'.cell? ⟨w3.heap.size, 1, none⟩ = some (.slice xA nA cA) ∧ w'.cell? ⟨w3.heap.size, 2, none⟩ = some (.slice yA mA dA) ∧ w'.cell? ⟨w6.heap.size, 0, none⟩ = some (.bool sB) ∧ w'.cell? ⟨w6.heap.size, 1, none⟩ = some (.slice xB nB cB) ∧ w'.cell? ⟨w6.heap.size, 2, none⟩ = some (.slice yB mB dB) ∧ w'.cell? ⟨w8.heap.size, 0, none⟩ = some (.bool sC) ∧ w'.cell? ⟨w8.heap.size, 1, none⟩ = some (.slice xC nC cC))
    (refine ⟨?_, ?_, ?_, ?_, ?_, ?_, ?_, ?_⟩ <;> repeat (with_reducible first | assumption | refine kCd ?_ | refine kCa ?_ | refine kCb (by assumption) ?_))
    (first
      | (go_at_call 33; with_reducible refine (N1.out _).mono ?_; rintro e v1 ⟨i1, i2, i3, i4, i5, i6, i7, i8, i9, rfl, hv1, HI⟩)
      | (go_at_call 26; with_reducible refine (S1.out _ i1 i2 i3 i4 i5 i6 i7 i8 i9 (by repeat (with_reducible first | assumption | exact Below.refl _ _ | refine Below.drew ?_ | refine kBa ?_ | refine kBb (by assumption) ?_)) HI.out).mono ?_; rintro e v2 ⟨rfl, hv2⟩)
      | (go_at_call 33; with_reducible refine (N2.out _).mono ?_; rintro e v3 ⟨j1, j2, j3, j4, j5, j6, j7, j8, j9, rfl, hv3, HJ⟩)
      | (go_at_call 26; with_reducible refine (S2.out _ j1 j2 j3 j4 j5 j6 j7 j8 j9 (by repeat (with_reducible first | assumption | exact Below.refl _ _ | refine Below.drew ?_ | refine kBa ?_ | refine kBb (by assumption) ?_)) HJ.out).mono ?_; rintro e v4 ⟨rfl, hv4⟩)
      | (go_at_call 32; with_reducible refine (D1.out _).mono ?_; rintro e v5 ⟨k1', k2', k3', k4', k5', rfl, hv5, HK⟩)
      | (go_at_call 17; with_reducible refine (S3.out _ k1' k2' k3' k4' k5' (by repeat (with_reducible first | assumption | exact Below.refl _ _ | refine Below.drew ?_ | refine kBa ?_ | refine kBb (by assumption) ?_)) HK.out.1 HK.out.2).mono ?_; rintro e v6 ⟨rfl, hv6⟩)
      | (go_at_call 22; with_reducible refine (F1.out _).mono ?_; rintro e v7 ⟨rfl, hv7⟩))
  all_goals
    go_wp2
    go_ret
    exact ⟨rfl, HW11.out.trans (Below.mono (by repeat (with_reducible first | assumption | exact Below.refl _ _ | refine Below.drew ?_ | refine kBa ?_ | refine kBb (by assumption) ?_)) HW11.out.size)⟩
end Go.Proofs.YtgklbedaebiglaaGreatDoor
namespace Go.Proofs.YtgklbedaebiglaaGreatDoor
open Go.RowKit

theorem q_f1 (a b c : Rat) : (a + b) * c = b * c + a * c := by grind
theorem q_f2 (a b : Rat) : a + b - a = b := by grind
theorem q_f3 (a c : Rat) (h : c ≠ 0) : a * c / c = a := by grind
theorem Rn.ne0 {L w s x n c f y m d g q} (h : Rn L w s x n c f y m d g q) (h0 : 0 < n) : q ≠ 0 := by
  intro e
  have h3 := vf_pos h.num.lm h.num.fm h0
  have h4 := h.num.mag.nv
  rw [e] at h4
  have : ((0 : Rat).num.natAbs : Int) = 0 := rfl
  omega

set_option maxRecDepth 100000 in
set_option maxHeartbeats 8000000 in
theorem ratField_c (sa : Bool) (xa : Option Addr) (na ca : Nat) (fa : Nat → Int) (ya : Option Addr) (ma da : Nat) (ga : Nat → Int) (sb : Bool) (xb : Option Addr) (nb cb : Nat) (fb : Nat → Int) (yb : Option Addr) (mb db : Nat) (gb : Nat → Int) (sc : Bool) (xc : Option Addr) (nc cc : Nat) (fc : Nat → Int) (yc : Option Addr) (mc dc : Nat) (gc : Nat → Int) (w : World) (ha : Rw w xa na ca fa ya ma da ga) (hb : Rw w xb nb cb fb yb mb db gb) (hc : Rw w xc nc cc fc yc mc dc gc) (htab : Tab w) :
    Calls Tryz.prog 5 #[.agg #[.bool sa, .slice xa na ca, .slice ya ma da], .agg #[.bool sb, .slice xb nb cb, .slice yb mb db], .agg #[.bool sc, .slice xc nc cc, .slice yc mc dc]] w fun e w' => e = .returned (.bool true) ∧ Below w.heap.size w w' := by
  have HTab := hid htab; have HA := hid ha; have HB := hid hb; have HC := hid hc
  have q1 := ha.cx; have q2 := ha.cy; have q3 := hb.cx; have q4 := hb.cy; have q5 := hc.cx; have q6 := hc.cy
  clear ha hb hc htab
  go_enter Tryz.func5, Tryz.ntmps5
  go_wp2_with fail
  refine (rAwake_c _ (HTab.out.below (below_alloc (below_alloc (below_alloc (Below.refl w.heap.size w) _) _) _) HTab.out.lt)).mono ?_
  rintro e w1 ⟨rfl, hbel⟩
  obtain ⟨⟨hz, p0, p1, p2, r0, r1, r2, t0, t1, t2, _⟩, hw⟩ := three_new hbel
  have BA1 : Hid (Bx3 w1 w.heap.size _ _ _) := ⟨by omega, p0, p1, p2⟩
  have BB1 : Hid (Bx3 w1 (w.heap.size + 1) _ _ _) := ⟨by omega, r0, r1, r2⟩
  have BC1 : Hid (Bx3 w1 (w.heap.size + 1 + 1) _ _ _) := ⟨by omega, t0, t1, t2⟩
  have HW1 := hid hw
  clear hbel hw hz p0 p1 p2 r0 r1 r2 t0 t1 t2
  obtain ⟨zBA, BA0, BA1, BA2⟩ := BA1.out
  obtain ⟨zBB, BB0, BB1, BB2⟩ := BB1.out
  go_wp2_with fail
  refine (rlight2_c sa xa ya na ca ma da sb xb yb nb cb mb db _ (by omega) (by omega) (by omega) (by omega)).mono ?_
  rintro e w2 ⟨rfl, hb⟩
  clear zBA BA0 BA1 BA2 zBB BB0 BB1 BB2
  have BA2 := hid (BA1.out.below hb); have BB2 := hid (BB1.out.below hb); have BC2 := hid (BC1.out.below hb); have HW2 := hid (HW1.out.trans (hb.mono HW1.out.size))
  clear BA1 BB1 BC1 HW1 hb
  obtain ⟨zBC, BC0, BC1, BC2⟩ := BC2.out
  cases hl : (lg na ma 20 && lg nb mb 20)
  · go_wp2
    go_ret
    exact ⟨rfl, HW2.out⟩
  have hl1 : na ≤ 20 ∧ ma ≤ 20 ∧ nb ≤ 20 ∧ mb ≤ 20 := by
    simp only [lg, Bool.and_eq_true, decide_eq_true_eq] at hl
    exact ⟨hl.1.1, hl.1.2, hl.2.1, hl.2.2⟩
  clear hl
  go_wp2_with fail
  refine (rLight_c sc xc yc nc cc mc dc _ (by omega) (by omega)).mono ?_
  rintro e w3 ⟨rfl, hb⟩
  clear zBC BC0 BC1 BC2
  have BA3 := hid (BA2.out.below hb); have BB3 := hid (BB2.out.below hb); have BC3 := hid (BC2.out.below hb); have HW3 := hid (HW2.out.trans (hb.mono HW2.out.size))
  clear BA2 BB2 BC2 HW2 hb
  obtain ⟨zBA, BA0, BA1, BA2⟩ := BA3.out
  cases hl : lg nc mc 20
  · go_wp2
    go_ret
    exact ⟨rfl, HW3.out⟩
  have hl2 : nc ≤ 20 ∧ mc ≤ 20 := by
    simp only [lg, Bool.and_eq_true, decide_eq_true_eq] at hl
    exact hl
  clear hl
  go_wp2_with fail
  refine (rForm_c (s := sa) (HA.out.below HW3.out) (by omega) (by omega)).mono ?_
  rintro e w4 ⟨rfl, hb⟩
  clear zBA BA0 BA1 BA2
  have BA4 := hid (BA3.out.below hb); have BB4 := hid (BB3.out.below hb); have BC4 := hid (BC3.out.below hb); have HW4 := hid (HW3.out.trans (hb.mono HW3.out.size))
  clear BA3 BB3 BC3 HW3 hb
  obtain ⟨zBB, BB0, BB1, BB2⟩ := BB4.out
  cases hf : rfB sa fa na ga ma
  · go_wp2
    go_ret
    exact ⟨rfl, HW4.out⟩
  have FA := hid hf
  clear hf
  go_wp2_with fail
  refine (rForm_c (s := sb) (HB.out.below HW4.out) (by omega) (by omega)).mono ?_
  rintro e w5 ⟨rfl, hb⟩
  clear zBB BB0 BB1 BB2
  have BA5 := hid (BA4.out.below hb); have BB5 := hid (BB4.out.below hb); have BC5 := hid (BC4.out.below hb); have HW5 := hid (HW4.out.trans (hb.mono HW4.out.size))
  clear BA4 BB4 BC4 HW4 hb
  obtain ⟨zBC, BC0, BC1, BC2⟩ := BC5.out
  cases hf : rfB sb fb nb gb mb
  · go_wp2
    go_ret
    exact ⟨rfl, HW5.out⟩
  have FB := hid hf
  clear hf
  go_wp2_with fail
  refine (rForm_c (s := sc) (HC.out.below HW5.out) (by omega) (by omega)).mono ?_
  rintro e w6 ⟨rfl, hb⟩
  clear zBC BC0 BC1 BC2
  have BA6 := hid (BA5.out.below hb); have BB6 := hid (BB5.out.below hb); have BC6 := hid (BC5.out.below hb); have HW6 := hid (HW5.out.trans (hb.mono HW5.out.size))
  clear BA5 BB5 BC5 HW5 hb
  cases hf : rfB sc fc nc gc mc
  · go_wp2
    go_ret
    exact ⟨rfl, HW6.out⟩
  have FC := hid hf
  clear hf
  obtain ⟨a, ha⟩ := (HA.out.below HW6.out).rn (L := 20) FA.out (by omega) (by omega)
  have RA6 := hid ha
  clear ha
  obtain ⟨b, hb⟩ := (HB.out.below HW6.out).rn (L := 20) FB.out (by omega) (by omega)
  have RB6 := hid hb
  clear hb
  obtain ⟨c, hc⟩ := (HC.out.below HW6.out).rn (L := 20) FC.out (by omega) (by omega)
  have RC6 := hid hc
  clear hc
  obtain ⟨zBA, BA0, BA1, BA2⟩ := BA6.out
  obtain ⟨zBB, BB0, BB1, BB2⟩ := BB6.out
  go_wp2_with fail
  refine (rAdd_n RA6.out RB6.out (by decide)).mono ?_
  rintro e w7 ⟨sP, xP, nP, cP, fP, yP, mP, dP, gP, rfl, hb, hr⟩
  have RP7 := hid hr
  clear hr
  clear zBA BA0 BA1 BA2 zBB BB0 BB1 BB2
  have BA7 := hid (BA6.out.below hb); have BB7 := hid (BB6.out.below hb); have BC7 := hid (BC6.out.below hb); have RA7 := hid (RA6.out.below hb); have RB7 := hid (RB6.out.below hb); have RC7 := hid (RC6.out.below hb); have HW7 := hid (HW6.out.trans (hb.mono HW6.out.size))
  clear BA6 BB6 BC6 RA6 RB6 RC6 HW6 hb
  obtain ⟨zBC, BC0, BC1, BC2⟩ := BC7.out
  go_wp2_with fail
  refine (rMul_n (RP7.out.alloc _) ((RC7.out.mono (by decide)).alloc _) (by decide)).mono ?_
  rintro e w8 ⟨sL, xL, nL, cL, fL, yL, mL, dL, gL, rfl, hb, hr⟩
  have RL8 := hid hr; have BP8 := hid (bx3_new hb)
  clear hr
  clear zBC BC0 BC1 BC2
  have BA8 := hid (BA7.out.next hb); have BB8 := hid (BB7.out.next hb); have BC8 := hid (BC7.out.next hb); have RA8 := hid (RA7.out.next hb); have RB8 := hid (RB7.out.next hb); have RC8 := hid (RC7.out.next hb); have RP8 := hid (RP7.out.next hb); have HW8 := hid ((below_alloc HW7.out _).trans (hb.mono (below_alloc HW7.out _).size))
  clear BA7 BB7 BC7 RA7 RB7 RC7 RP7 HW7 hb
  obtain ⟨zBA, BA0, BA1, BA2⟩ := BA8.out
  obtain ⟨zBC, BC0, BC1, BC2⟩ := BC8.out
  go_wp2_with fail
  refine (rMul_n (RA8.out.alloc _) (RC8.out.alloc _) (by decide)).mono ?_
  rintro e w9 ⟨sX, xX, nX, cX, fX, yX, mX, dX, gX, rfl, hb, hr⟩
  have RX9 := hid hr; have BL9 := hid (bx3_new hb)
  clear hr
  clear zBA BA0 BA1 BA2 zBC BC0 BC1 BC2
  have BA9 := hid (BA8.out.next hb); have BB9 := hid (BB8.out.next hb); have BC9 := hid (BC8.out.next hb); have RA9 := hid (RA8.out.next hb); have RB9 := hid (RB8.out.next hb); have RC9 := hid (RC8.out.next hb); have RP9 := hid (RP8.out.next hb); have BP9 := hid (BP8.out.next hb); have RL9 := hid (RL8.out.next hb); have HW9 := hid ((below_alloc HW8.out _).trans (hb.mono (below_alloc HW8.out _).size))
  clear BA8 BB8 BC8 RA8 RB8 RC8 RP8 BP8 RL8 HW8 hb
  obtain ⟨zBB, BB0, BB1, BB2⟩ := BB9.out
  obtain ⟨zBC, BC0, BC1, BC2⟩ := BC9.out
  go_wp2_with fail
  refine (rMul_n (RB9.out.alloc _) (RC9.out.alloc _) (by decide)).mono ?_
  rintro e w10 ⟨sY, xY, nY, cY, fY, yY, mY, dY, gY, rfl, hb, hr⟩
  have RY10 := hid hr; have BX10 := hid (bx3_new hb)
  clear hr
  clear zBB BB0 BB1 BB2 zBC BC0 BC1 BC2
  have BA10 := hid (BA9.out.next hb); have BB10 := hid (BB9.out.next hb); have BC10 := hid (BC9.out.next hb); have RA10 := hid (RA9.out.next hb); have RB10 := hid (RB9.out.next hb); have RC10 := hid (RC9.out.next hb); have RP10 := hid (RP9.out.next hb); have BP10 := hid (BP9.out.next hb); have RL10 := hid (RL9.out.next hb); have BL10 := hid (BL9.out.next hb); have RX10 := hid (RX9.out.next hb); have HW10 := hid ((below_alloc HW9.out _).trans (hb.mono (below_alloc HW9.out _).size))
  clear BA9 BB9 BC9 RA9 RB9 RC9 RP9 BP9 RL9 BL9 RX9 HW9 hb
  obtain ⟨zBX, BX0, BX1, BX2⟩ := BX10.out
  go_wp2_with fail
  refine (rAdd_n (RY10.out.alloc _) (RX10.out.alloc _) (by decide)).mono ?_
  rintro e w11 ⟨sR, xR, nR, cR, fR, yR, mR, dR, gR, rfl, hb, hr⟩
  have RR11 := hid hr
  clear hr
  clear zBX BX0 BX1 BX2
  clear RY10
  have BA11 := hid (BA10.out.next hb); have BB11 := hid (BB10.out.next hb); have BC11 := hid (BC10.out.next hb); have RA11 := hid (RA10.out.next hb); have RB11 := hid (RB10.out.next hb); have RC11 := hid (RC10.out.next hb); have RP11 := hid (RP10.out.next hb); have BP11 := hid (BP10.out.next hb); have RL11 := hid (RL10.out.next hb); have BL11 := hid (BL10.out.next hb); have RX11 := hid (RX10.out.next hb); have BX11 := hid (BX10.out.next hb); have HW11 := hid ((below_alloc HW10.out _).trans (hb.mono (below_alloc HW10.out _).size))
  clear BA10 BB10 BC10 RA10 RB10 RC10 RP10 BP10 RL10 BL10 RX10 BX10 HW10 hb
  obtain ⟨zBP, BP0, BP1, BP2⟩ := BP11.out
  obtain ⟨zBA, BA0, BA1, BA2⟩ := BA11.out
  go_wp2_with fail
  refine (rSub_n (RP11.out.alloc _) ((RA11.out.mono (by decide)).alloc _) (by decide)).mono ?_
  rintro e w12 ⟨sD, xD, nD, cD, fD, yD, mD, dD, gD, rfl, hb, hr⟩
  have RD12 := hid hr; have BR12 := hid (bx3_new hb)
  clear hr
  clear zBP BP0 BP1 BP2 zBA BA0 BA1 BA2
  have BA12 := hid (BA11.out.next hb); have BB12 := hid (BB11.out.next hb); have BC12 := hid (BC11.out.next hb); have RA12 := hid (RA11.out.next hb); have RB12 := hid (RB11.out.next hb); have RC12 := hid (RC11.out.next hb); have RL12 := hid (RL11.out.next hb); have BL12 := hid (BL11.out.next hb); have RX12 := hid (RX11.out.next hb); have BX12 := hid (BX11.out.next hb); have RR12 := hid (RR11.out.next hb); have HW12 := hid ((below_alloc HW11.out _).trans (hb.mono (below_alloc HW11.out _).size))
  clear BA11 BB11 BC11 RA11 RB11 RC11 RL11 BL11 RX11 BX11 RR11 HW11 hb
  obtain ⟨zBL, BL0, BL1, BL2⟩ := BL12.out
  obtain ⟨zBR, BR0, BR1, BR2⟩ := BR12.out
  go_wp2_with fail
  refine (rSame_n (RL12.out.alloc _) (RR12.out.alloc _) (by decide) (by decide)).mono ?_
  rintro e w13 ⟨rfl, hb⟩
  rw [show decide ((a + b) * c = b * c + a * c) = true from decide_eq_true (q_f1 a b c)]
  have BD13 := hid (bx3_new hb)
  clear RR12
  clear zBL BL0 BL1 BL2 zBR BR0 BR1 BR2
  have BA13 := hid (BA12.out.next hb); have BB13 := hid (BB12.out.next hb); have BC13 := hid (BC12.out.next hb); have RA13 := hid (RA12.out.next hb); have RB13 := hid (RB12.out.next hb); have RC13 := hid (RC12.out.next hb); have RL13 := hid (RL12.out.next hb); have BL13 := hid (BL12.out.next hb); have RX13 := hid (RX12.out.next hb); have BX13 := hid (BX12.out.next hb); have RD13 := hid (RD12.out.next hb); have HW13 := hid ((below_alloc HW12.out _).trans (hb.mono (below_alloc HW12.out _).size))
  clear BA12 BB12 BC12 RA12 RB12 RC12 RL12 BL12 RX12 BX12 RD12 HW12 hb
  obtain ⟨zBD, BD0, BD1, BD2⟩ := BD13.out
  obtain ⟨zBB, BB0, BB1, BB2⟩ := BB13.out
  go_wp2_with fail
  refine (rSame_n RD13.out RB13.out (by decide) (by decide)).mono ?_
  rintro e w14 ⟨rfl, hb⟩
  rw [show decide (a + b - a = b) = true from decide_eq_true (q_f2 a b)]
  clear RD13
  clear zBD BD0 BD1 BD2 zBB BB0 BB1 BB2
  have BA14 := hid (BA13.out.below hb); have BC14 := hid (BC13.out.below hb); have RA14 := hid (RA13.out.below hb); have RC14 := hid (RC13.out.below hb); have RL14 := hid (RL13.out.below hb); have BL14 := hid (BL13.out.below hb); have RX14 := hid (RX13.out.below hb); have BX14 := hid (BX13.out.below hb); have HW14 := hid (HW13.out.trans (hb.mono HW13.out.size))
  clear BA13 BC13 RA13 RC13 RL13 BL13 RX13 BX13 HW13 hb
  obtain ⟨zBL, BL0, BL1, BL2⟩ := BL14.out
  go_wp2_with fail
  refine (rForm_n RL14.out (by decide)).mono ?_
  rintro e w15 ⟨rfl, hb⟩
  clear RL14
  clear zBL BL0 BL1 BL2
  have BA15 := hid (BA14.out.below hb); have BC15 := hid (BC14.out.below hb); have RA15 := hid (RA14.out.below hb); have RC15 := hid (RC14.out.below hb); have RX15 := hid (RX14.out.below hb); have BX15 := hid (BX14.out.below hb); have HW15 := hid (HW14.out.trans (hb.mono HW14.out.size))
  clear BA14 BC14 RA14 RC14 RX14 BX14 HW14 hb
  obtain ⟨zBX, BX0, BX1, BX2⟩ := BX15.out
  obtain ⟨zBC, BC0, BC1, BC2⟩ := BC15.out
  rcases Nat.eq_zero_or_pos nc with h0 | h0
  · subst h0
    go_wp2_with fail
    refine (rQuo_z RX15.out (RC15.out.mono (by decide)) (by decide) rfl).mono ?_
    rintro e w16 ⟨sQ, xQ, nQ, cQ, yQ, mQ, dQ, rfl, hb⟩
    clear zBX BX0 BX1 BX2 zBC BC0 BC1 BC2
    have BC16 := hid (BC15.out.below hb); have HW16 := hid (HW15.out.trans (hb.mono HW15.out.size))
    clear BC15 HW15 hb
    obtain ⟨zBC, BC0, BC1, BC2⟩ := BC16.out
    go_wp2
    go_ret
    exact ⟨rfl, below_alloc HW16.out _⟩
  · have hn0 : ((nc : Int) == 0) = false := by simp; omega
    have hcz := RC15.out.ne0 h0
    have HCZ := hid hcz
    clear hcz
    go_wp2_with fail
    refine (rQuo_n RX15.out (RC15.out.mono (by decide)) (by decide) h0).mono ?_
    rintro e w16 ⟨sQ, xQ, nQ, cQ, fQ, yQ, mQ, dQ, gQ, rfl, hb, hr⟩
    have RQ16 := hid hr
    clear hr
    clear zBX BX0 BX1 BX2 zBC BC0 BC1 BC2
    have BC16 := hid (BC15.out.below hb); have BA16 := hid (BA15.out.below hb); have RA16 := hid (RA15.out.below hb); have HW16 := hid (HW15.out.trans (hb.mono HW15.out.size))
    clear BC15 BA15 RA15 HW15 hb
    obtain ⟨zBC, BC0, BC1, BC2⟩ := BC16.out
    obtain ⟨zBA, BA0, BA1, BA2⟩ := BA16.out
    go_wp2_with fail
    refine (rSame_n (RQ16.out.alloc _) (RA16.out.alloc _) (by decide) (by decide)).mono ?_
    rintro e w17 ⟨rfl, hb⟩
    rw [show decide (a * c / c = a) = true from decide_eq_true (q_f3 a c HCZ.out)]
    have HW17 := hid ((below_alloc HW16.out _).trans (hb.mono (below_alloc HW16.out _).size))
    clear hb
    go_wp2
    go_ret
    exact ⟨rfl, HW17.out⟩
end Go.Proofs.YtgklbedaebiglaaGreatDoor
namespace Go.Proofs.YtgklbedaebiglaaGreatDoor
open Go.RowKit

set_option maxRecDepth 100000 in
set_option maxHeartbeats 400000 in
theorem rclone_c (ao : Option Addr) (n cap : Nat) (f : Nat → Int) (w : World) (hn : n ≤ 1048576) (hr : Rd .u64 w ao n f) (hnil : ao = none → n = 0 ∧ cap = 0) :
    Calls Tryz.prog 91 #[.slice ao n cap] w fun e w' => ∃ ao' cap', e = .returned (.slice ao' n cap') ∧ Below w.heap.size w w' ∧ Own .u64 36 w' w.heap.size (.slice ao' n cap') n f := by
  cases ao with
  | none =>
    obtain ⟨rfl, rfl⟩ := hnil rfl
    go_enter Tryz.func91, Tryz.ntmps91
    obtain ⟨i0, hi, hz0, hz1, hz2⟩ := info_parts Tryz.infoU64
    go_wp2_with (at_builtin; refine wpList_append_own_none rfl (.const (.slice none 0 0)) (.tmp 3) 22 rfl w.heap.size 36 i0 1 Tryz.underlying22 hi (.slice none 0 0) 0 [] rfl (World.ownsRow_nil _ _ _ _) rfl ?_)
    go_ret
    exact ⟨none, 0, rfl, Below.refl _ _, own_nil _ _ _ _ _⟩
  | some ad =>
    clear hnil
    have HR := hid hr
    clear hr
    go_enter Tryz.func91, Tryz.ntmps91
    obtain ⟨i0, hi, hz0, hz1, hz2⟩ := info_parts Tryz.infoU64
    go_wp2_with (at_builtin; refine wpList_append_own w rfl (.const (.slice none 0 0)) (.tmp 3) 22 rfl w.heap.size 36 i0 (.int .u64 0) 1 8 Tryz.underlying22 hi hz0 hz1 hz2 rfl (by decide) (.slice none 0 0) 0 [] rfl (World.ownsRow_nil _ _ _ _) ad n cap (lst .u64 f n) rfl (by rw [lst_length, Nat.mul_one]) ?c1 (lst_one _ _ _) ?c2 ?c3 (Nat.le_refl _) ?_)
    case c1 =>
      intro j u hu
      obtain ⟨hj, rfl⟩ := lst_getE hu
      obtain ⟨b, o, e, hc⟩ := HR.out j hj
      cases e
      rw [addr_add]; exact hc
    case c2 => unfold maxLen; omega
    case c3 => omega
    intro v' w' hown hgr _
    have hown' : Own .u64 36 w' w.heap.size v' n f := hown
    have hbel : Below w.heap.size w w' := (Below.refl _ _).grown hgr (Nat.le_refl _) (fun k h => by simp [Value.ownBlock] at h)
    obtain ⟨ao', cap', hv, hcc, hnn, hml, hrd, hlt⟩ := hown'.shape
    rw [hv] at hown' ⊢
    clear hown hgr hv
    have HO := hid hown'
    clear hown'
    go_wp2
    go_ret
    exact ⟨ao', cap', rfl, hbel, HO.out⟩
theorem cloneWn_c {w s x n c f v} (h : Wn w s x n c f v) (hn : n ≤ 4096) :
    Calls Tryz.prog 91 #[.slice x n c] w fun e w' => ∃ z c', e = .returned (.slice z n c') ∧ Below w.heap.size w w' ∧ Hid (Wn w' s z n c' f v) :=
  (rclone_c x n c f w (by omega) h.rd h.nil).mono (fun _ _ ⟨z, c', h1, h2, h3⟩ => ⟨z, c', h1, h2, h3.slice.2.2.2.1, h.lm, h.wf, ⟨h3.slice.1, h3.slice.2.1⟩, h3.slice.2.2.1, h.val⟩)

set_option maxRecDepth 100000 in
set_option maxHeartbeats 4000000 in
theorem rCopy_n {L : Nat} {w : World} {sa : Bool} {xa : Option Addr} {na ca : Nat} {fa : Nat → Int} {ya : Option Addr} {ma da : Nat} {ga : Nat → Int} {a : Rat} (ha : Rn L w sa xa na ca fa ya ma da ga a) (hL : L ≤ 1000) :
    Calls Tryz.prog 64 #[.agg #[.bool sa, .slice xa na ca, .slice ya ma da]] w fun e w' => ∃ x c y d, e = .returned (.agg #[.bool sa, .slice x na c, .slice y ma d]) ∧ Below w.heap.size w w' ∧ Rn L w' sa x na c fa y ma d ga a := by
  have b1 := ha.ln; have b2 := ha.ld
  have h1 := (ha.alloc (.cells #[.bool sa, .slice xa na ca, .slice ya ma da] 40)).alloc (.cells #[.bool false, .slice none 0 0, .slice none 0 0] 40)
  have h3 := ob_new (w.alloc (.cells #[.bool sa, .slice xa na ca, .slice ya ma da] 40)) 40
  rw [size_alloc1] at h3
  have h4 := below_alloc (below_alloc (Below.refl w.heap.size w) (.cells #[.bool sa, .slice xa na ca, .slice ya ma da] 40)) (.cells #[.bool false, .slice none 0 0, .slice none 0 0] 40)
  have h5 := (bx3_at w (.bool sa) (.slice xa na ca) (.slice ya ma da) 40).alloc (.cells #[.bool false, .slice none 0 0, .slice none 0 0] 40)
  clear ha
  go_enter Tryz.func64, Tryz.ntmps64
  go_wp2_with fail
  generalize (w.alloc (.cells #[.bool sa, .slice xa na ca, .slice ya ma da] 40)).alloc (.cells #[.bool false, .slice none 0 0, .slice none 0 0] 40) = w1 at *
  have HA := hid h1; have OB := h3; have HW := hid h4
  obtain ⟨hz, z0, z1, z2, zf⟩ := h3
  obtain ⟨hy, x0, x1, x2⟩ := h5
  clear h1 h4
  have C1 : Hid (∀ W, Below w1.heap.size w1 W → Calls Tryz.prog 91 #[.slice xa na ca] W fun e w' => ∃ z c', e = .returned (.slice z na c') ∧ Below W.heap.size W w' ∧ Hid (Wn w' sa z na c' fa a.num)) := fun W hW => cloneWn_c (HA.out.num.below hW) (by omega)
  have C2 : Hid (∀ W, Below w1.heap.size w1 W → Calls Tryz.prog 91 #[.slice ya ma da] W fun e w' => ∃ z c', e = .returned (.slice z ma c') ∧ Below W.heap.size W w' ∧ Hid (Wn w' false z ma c' ga (a.den : Int))) := fun W hW => cloneWn_c (HA.out.den.below hW) (by omega)
  go_region_held3 (fun w' => w'.cell? ⟨w.heap.size, 0, none⟩ = some (.bool sa) ∧ w'.cell? ⟨w.heap.size, 1, none⟩ = some (.slice xa na ca) ∧ w'.cell? ⟨w.heap.size, 2, none⟩ = some (.slice ya ma da) ∧ (w'.cell? ⟨w.heap.size + 1, 0, none⟩).isSome = true ∧ (w'.cell? ⟨w.heap.size + 1, 1, none⟩).isSome = true ∧ (w'.cell? ⟨w.heap.size + 1, 2, none⟩).isSome = true ∧ w'.frozen? ⟨w.heap.size + 1, 0, none⟩ = false ∧ w'.frozen? ⟨w.heap.size + 1, 1, none⟩ = false ∧ w'.frozen? ⟨w.heap.size + 1, 2, none⟩ = false)
    (refine ⟨?_, ?_, ?_, ?_, ?_, ?_, ?_, ?_, ?_⟩ <;> repeat (with_reducible first | assumption | exact zf _ | exact kI0 z0 | exact kI0 z1 | exact kI0 z2 | exact tf _ | exact kI0 t0 | exact kI0 t1 | exact kI0 t2 | exact uf _ | exact kI0 u0 | exact kI0 u1 | exact kI0 u2 | refine kCd ?_ | refine kId ?_ | refine kFd ?_ | refine kCs (by simp only [ne_eq]; omega) ?_ | refine kIs ?_ | refine kFs ?_ | refine kCb (by assumption) ?_ | refine kIb (by assumption) ?_))
    (first
      | (go_at_call 91; with_reducible refine (C1.out _ (by repeat (with_reducible first | assumption | exact Below.refl _ _ | refine Below.drew ?_ | refine kBa ?_ | refine kBb (by assumption) ?_))).mono ?_; rintro e w5 ⟨zp, cp, rfl, hb5, HP⟩; have TU : Ob w5 (w.heap.size + 1) := (by repeat (with_reducible first | exact OB | exact TU | exact TV | refine Ob.drew ?_ | refine kOb (by assumption) ?_)); obtain ⟨_, t0, t1, t2, tf⟩ := id TU)
      | (go_at_call 91; with_reducible refine (C2.out _ (by repeat (with_reducible first | assumption | exact Below.refl _ _ | refine Below.drew ?_ | refine kBa ?_ | refine kBb (by assumption) ?_))).mono ?_; rintro e w6 ⟨zq, cq, rfl, hb6, HQ⟩; have TV : Ob w6 (w.heap.size + 1) := (by repeat (with_reducible first | exact OB | exact TU | exact TV | refine Ob.drew ?_ | refine kOb (by assumption) ?_)); obtain ⟨_, u0, u1, u2, uf⟩ := id TV))
  have WA := HP.out.below hb6
  have hb : Below w1.heap.size w1 w6 := (by repeat (with_reducible first | assumption | exact Below.refl _ _ | refine Below.drew ?_ | refine kBa ?_ | refine kBb (by assumption) ?_))
  go_wp2
  exact bodyPost_ret (v := .agg #[.bool sa, .slice zp na cp, .slice zq ma cq]) (by simp [results, Tryz.results64, go_sem, u0, u1, u2]) rfl ⟨zp, cp, zq, cq, rfl, below_st (HW.out.trans (hb.mono HW.out.size)) (by omega), TV.wn WA, TV.wn HQ.out, b1, b2⟩

set_option maxRecDepth 100000 in
set_option maxHeartbeats 4000000 in
theorem rNeg_n {L : Nat} {w : World} {sa : Bool} {xa : Option Addr} {na ca : Nat} {fa : Nat → Int} {ya : Option Addr} {ma da : Nat} {ga : Nat → Int} {a : Rat} (ha : Rn L w sa xa na ca fa ya ma da ga a) (hL : L ≤ 1000) :
    Calls Tryz.prog 29 #[.agg #[.bool sa, .slice xa na ca, .slice ya ma da]] w fun e w' => RatTup L w w' e (-a) := by
  have HA0 := hid ha
  have b1 := ha.num.cap
  clear ha
  go_enter Tryz.func29, Tryz.ntmps29
  go_wp2_with fail
  refine (rForm_n ((HA0.out.alloc _).alloc _) (by omega)).mono ?_
  rintro e w1 ⟨rfl, hbel⟩
  have hbx := ((bx3_at w _ _ _ _).alloc _).below hbel
  have hob := (ob_new (w.alloc _) _).below hbel
  rw [size_alloc1] at hob
  have HW1 : Hid (Below w.heap.size w w1) := (below_alloc (below_alloc (Below.refl w.heap.size w) _) _).trans (hbel.mono (by simp; omega))
  have HA1 := hid (HA0.out.below HW1.out); have OB1 := hid hob
  clear hbel hob HA0
  obtain ⟨za, x0, x1, x2⟩ := hbx
  go_wp2_with fail
  refine (rCopy_n HA1.out hL).mono ?_
  rintro e w2 ⟨xp, cp, yp, dp, rfl, hb, hr⟩
  have RP2 := hid hr; have OB2 := hid (OB1.out.below hb); have HW2 := hid (HW1.out.trans (hb.mono HW1.out.size))
  clear hr hb OB1 HW1 HA1 za x0 x1 x2
  go_wp2_with fail
  refine (rsigned_c _ xp yp na cp ma dp _ (by omega)).mono ?_
  rintro e w3 ⟨rs, rfl, HRS, hb⟩
  have RP3 := hid (RP2.out.next hb); have OB3 := hid (OB2.out.next hb); have HW3 := hid ((below_alloc HW2.out _).trans (hb.mono (below_alloc HW2.out _).size))
  clear hb RP2 OB2 HW2
  obtain ⟨hz, z0, z1, z2, zf⟩ := OB3.out
  go_wp2
  exact bodyPost_ret (v := .tuple #[.agg #[.bool rs, .slice xp na cp, .slice yp ma dp], .int .i64 0]) (by simp [results, Tryz.results29, go_sem, z0, z1, z2]) rfl ⟨rs, xp, na, cp, fa, yp, ma, dp, ga, rfl, below_st HW3.out (by omega), OB3.out.rn (RP3.out.negate HRS.out)⟩
end Go.Proofs.YtgklbedaebiglaaGreatDoor
namespace Go.Proofs.YtgklbedaebiglaaGreatDoor
open Go.RowKit

/-- How two numbers lie to one another. -/
def ROrd (c : Int) (a b : Rat) : Prop := c = -1 ∧ a < b ∨ c = 0 ∧ a = b ∨ c = 1 ∧ b < a
theorem rord_of {c : Int} {a b : Rat} (h : Ord c (a.num * b.den) (b.num * a.den)) : ROrd c a b := by
  rcases h with ⟨h1, h2⟩ | ⟨h1, h2⟩ | ⟨h1, h2⟩
  · exact .inl ⟨h1, (Rat.lt_iff a b).2 h2⟩
  · refine .inr (.inl ⟨h1, Rat.le_antisymm ((Rat.le_iff a b).2 ?_) ((Rat.le_iff b a).2 ?_)⟩)
    · rw [h2]; exact Int.le_refl _
    · rw [h2]; exact Int.le_refl _
  · exact .inr (.inr ⟨h1, (Rat.lt_iff b a).2 h2⟩)
theorem prod_of {L : Nat} {w1 wx W5 w5 : World} {b4 : Nat} {r1 : Bool} {p1 : Option Addr} {k1 c1 n m : Nat} {q : Nat → Int} {v : Int} (hn : n ≤ L) (hm : m ≤ L) (hW : Below w1.heap.size w1 W5) (hD : WRes (n + m) W5 w5 r1 p1 k1 c1 q ∧ wv r1 q k1 = v) (hT : Turned w1.heap.size W5.heap.size w5 wx) (hb : Bx wx b4 r1 p1 k1 c1) : FlAt (2 * L) w1 wx b4 r1 p1 k1 c1 v := by
  have hQ := hD.1.res.turned hW hT
  have := hQ.le
  exact ⟨hb, hQ.bel, ⟨q, hQ.rd, hQ.lm, hD.1.wfB, hQ.ncap, hQ.nil', hD.2⟩, by omega⟩

set_option maxRecDepth 100000 in
set_option maxHeartbeats 8000000 in
theorem rCmp_n {L : Nat} {w : World} {sa : Bool} {xa : Option Addr} {na ca : Nat} {fa : Nat → Int} {ya : Option Addr} {ma da : Nat} {ga : Nat → Int} {a : Rat} {sb : Bool} {xb : Option Addr} {nb cb : Nat} {fb : Nat → Int} {yb : Option Addr} {mb db : Nat} {gb : Nat → Int} {b : Rat} (ha : Rn L w sa xa na ca fa ya ma da ga a) (hb : Rn L w sb xb nb cb fb yb mb db gb b) (hL : L ≤ 1000) :
    Calls Tryz.prog 28 #[.agg #[.bool sa, .slice xa na ca, .slice ya ma da], .agg #[.bool sb, .slice xb nb cb, .slice yb mb db]] w fun e w' => ∃ c, e = .returned (.tuple #[.int .i64 c, .int .i64 0]) ∧ Below w.heap.size w w' ∧ ROrd c a b := by
  have HA0 := hid ha; have HB0 := hid hb
  have b1 := ha.ln; have b2 := ha.ld; have b3 := hb.ln; have b4 := hb.ld
  clear ha hb
  go_enter Tryz.func28, Tryz.ntmps28
  go_wp2_with fail
  refine (rForm_n ((HA0.out.alloc _).alloc _) (by omega)).mono ?_
  rintro e w0 ⟨rfl, hbel⟩
  obtain ⟨ba, bb, hw⟩ := two_new hbel
  have BA0 := hid ba; have BB0 := hid bb; have HW0 := hid hw; have RA0 := hid (HA0.out.below hw); have RB0 := hid (HB0.out.below hw)
  clear hbel ba bb hw HA0 HB0
  obtain ⟨zb, y0, y1, y2⟩ := BB0.out
  go_wp2_with fail
  refine (rForm_n RB0.out (by omega)).mono ?_
  rintro e w1 ⟨rfl, hb⟩
  clear zb y0 y1 y2
  have BA1 := hid (BA0.out.below hb); have BB1 := hid (BB0.out.below hb); have RA1 := hid (RA0.out.below hb); have RB1 := hid (RB0.out.below hb); have HW1 := hid (HW0.out.trans (hb.mono HW0.out.size))
  clear BA0 BB0 RA0 RB0 HW0 hb
  obtain ⟨za, x0, x1, x2⟩ := BA1.out
  obtain ⟨zb, y0, y1, y2⟩ := BB1.out
  have C1 : Hid (∀ W, Below w1.heap.size w1 W → Calls Tryz.prog 57 #[.agg #[.bool sa, .slice xa na ca, .slice ya ma da]] W fun e w' => e = .returned (.agg #[.bool sa, .slice xa na ca]) ∧ Below W.heap.size W w') := fun W _ => numer_c sa xa ya na ca ma da W
  have C2 : Hid (∀ W, Below w1.heap.size w1 W → Calls Tryz.prog 63 #[.agg #[.bool sb, .slice xb nb cb, .slice yb mb db]] W fun e w' => e = .returned (.agg #[.bool false, .slice yb mb db]) ∧ Below W.heap.size W w') := fun W _ => denom_c sb xb yb nb cb mb db W
  have C3 : Hid (∀ W, Below w1.heap.size w1 W → Calls Tryz.prog 14 #[.agg #[.bool sa, .slice xa na ca], .agg #[.bool false, .slice yb mb db]] W fun e w' => ∃ r1 p1 k1 c1 q, e = .returned (.tuple #[.agg #[.bool r1, .slice p1 k1 c1], .int .i64 0]) ∧ Below W.heap.size W w' ∧ Hid (WRes (na + mb) W w' r1 p1 k1 c1 q ∧ wv r1 q k1 = a.num * b.den)) := fun W hW => by
    have h1 := (RA1.out.below hW).num; have h2 := (RB1.out.below hW).den
    refine (wMul_c sa false xa yb na mb ca db fa gb W (by omega) (by omega) h1.cap.1 h2.cap.1 h1.cap.2 h2.cap.2 h1.rd h2.rd h1.lm h2.lm).mono ?_
    rintro e w' ⟨r, z, k, e', h, er, rfl, hres, hans⟩
    obtain ⟨rfl, hv⟩ := hans.ok ⟨h1.wf, h2.wf⟩
    exact ⟨r, z, k, e', h, rfl, hres.res.bel, hres, by rw [hv, h1.val, h2.val]⟩
  go_upto_region 3 with fail
  go_cut [6, 7] from 18 to 25 (fun u t wx => ∃ (wy : World) (b4 : Nat) (s : Bool) (z : Option Addr) (k c : Nat), wy = wx ∧ u = .pointer (some ⟨b4, 0, none⟩) ∧ t = .int .i64 0 ∧ FlAt (2 * L) w1 wy b4 s z k c (a.num * b.den))
  case first =>
    go_region_held3 (fun w' => w'.cell? ⟨w.heap.size, 0, none⟩ = some (.bool sa) ∧ w'.cell? ⟨w.heap.size, 1, none⟩ = some (.slice xa na ca) ∧ w'.cell? ⟨w.heap.size, 2, none⟩ = some (.slice ya ma da) ∧ w'.cell? ⟨w.heap.size + 1, 0, none⟩ = some (.bool sb) ∧ w'.cell? ⟨w.heap.size + 1, 1, none⟩ = some (.slice xb nb cb) ∧ w'.cell? ⟨w.heap.size + 1, 2, none⟩ = some (.slice yb mb db))
      (refine ⟨?_, ?_, ?_, ?_, ?_, ?_⟩ <;> repeat (with_reducible first | assumption | refine kCd ?_ | refine kCa ?_ | refine kCs (by simp only [ne_eq]; omega) ?_ | refine kCb (by assumption) ?_))
      (first
        | (go_at_call 57; with_reducible refine (C1.out _ (by repeat (with_reducible first | assumption | exact Below.refl _ _ | refine Below.drew ?_ | refine kBa ?_ | refine kBb (by assumption) ?_))).mono ?_; rintro e v3 ⟨rfl, hb3⟩; have hza := hb3.size; (try simp at hza); obtain ⟨hc3, hf3⟩ := bcell hb3; (try have q100 : w1.heap.size < v3.heap.size := by omega))
        | (go_at_call 63; with_reducible refine (C2.out _ (by repeat (with_reducible first | assumption | exact Below.refl _ _ | refine Below.drew ?_ | refine kBa ?_ | refine kBb (by assumption) ?_))).mono ?_; rintro e v4 ⟨rfl, hb4⟩; have hzb := hb4.size; (try simp at hzb); obtain ⟨hc4, hf4⟩ := bcell hb4; (try have q100 : w1.heap.size < v4.heap.size := by omega); (try have q102 : v3.heap.size < v4.heap.size := by omega))
        | (go_at_call 14; with_reducible refine (C3.out _ (by repeat (with_reducible first | assumption | exact Below.refl _ _ | refine Below.drew ?_ | refine kBa ?_ | refine kBb (by assumption) ?_))).mono ?_; rintro e v5 ⟨r1, p1, k1, c1, q, rfl, hb5, HD⟩; have hzc := hb5.size; (try simp at hzc); obtain ⟨hc5, hf5⟩ := bcell hb5; (try have q100 : w1.heap.size < v5.heap.size := by omega); (try have q102 : v3.heap.size < v5.heap.size := by omega); (try have q104 : v4.heap.size < v5.heap.size := by omega)))
    all_goals
      go_wp2_with fail
      go_meet
      refine ⟨_, _, r1, p1, k1, c1, rfl, rfl, rfl, prod_of (by assumption) (by assumption) (by repeat (with_reducible first | assumption | exact Below.refl _ _ | refine Below.drew ?_ | refine kBa ?_ | refine kBb (by assumption) ?_)) HD.out (by repeat (with_reducible first | exact Turned.refl _ _ _ | refine Turned.drew ?_ | refine Turned.alloc ?_ _ | refine Turned.set ?_ (by first | omega | (simp; done) | (simp; omega)) (by first | omega | (simp; done) | (simp; omega)) _)) ⟨(by first | omega | (simp; done) | (simp; omega)), (by repeat (with_reducible first | assumption | exact kN0 | exact kN1 | (refine kM0 ?_; (simp <;> fail)) | (refine kM1 ?_; (simp <;> fail)) | exact kI0 kN0 | exact kI0 kN1 | (refine kI0 (kM0 ?_); (simp <;> fail)) | (refine kI0 (kM1 ?_); (simp <;> fail)) | refine kCd ?_ | refine kCe ?_ | refine kCo (by decide) ?_ | refine kCs (by simp only [ne_eq]; omega) ?_ | refine kCa ?_ | refine kCb (by assumption) ?_ | refine kId ?_ | refine kIs ?_ | refine kIa ?_ | refine kIb (by assumption) ?_)), (by repeat (with_reducible first | assumption | exact kN0 | exact kN1 | (refine kM0 ?_; (simp <;> fail)) | (refine kM1 ?_; (simp <;> fail)) | exact kI0 kN0 | exact kI0 kN1 | (refine kI0 (kM0 ?_); (simp <;> fail)) | (refine kI0 (kM1 ?_); (simp <;> fail)) | refine kCd ?_ | refine kCe ?_ | refine kCo (by decide) ?_ | refine kCs (by simp only [ne_eq]; omega) ?_ | refine kCa ?_ | refine kCb (by assumption) ?_ | refine kId ?_ | refine kIs ?_ | refine kIa ?_ | refine kIb (by assumption) ?_))⟩⟩
  case rest =>
    obtain ⟨w2, bX, sX, zX, kX, cX, rfl, rfl, rfl, hbx, hb, ⟨fX, hwn⟩, hleX⟩ := hcut
    have BX2 := hid hbx; have WX2 := hid hwn
    clear hbx hwn za zb x0 x1 x2 y0 y1 y2 C1 C2 C3
    have BA2 := hid (BA1.out.below hb); have BB2 := hid (BB1.out.below hb); have RA2 := hid (RA1.out.below hb); have RB2 := hid (RB1.out.below hb); have HW2 := hid (HW1.out.trans (hb.mono HW1.out.size))
    clear BA1 BB1 RA1 RB1 HW1 hb
    obtain ⟨za, x0, x1, x2⟩ := BA2.out
    obtain ⟨zb, y0, y1, y2⟩ := BB2.out
    have C1 : Hid (∀ W, Below w2.heap.size w2 W → Calls Tryz.prog 57 #[.agg #[.bool sb, .slice xb nb cb, .slice yb mb db]] W fun e w' => e = .returned (.agg #[.bool sb, .slice xb nb cb]) ∧ Below W.heap.size W w') := fun W _ => numer_c sb xb yb nb cb mb db W
    have C2 : Hid (∀ W, Below w2.heap.size w2 W → Calls Tryz.prog 63 #[.agg #[.bool sa, .slice xa na ca, .slice ya ma da]] W fun e w' => e = .returned (.agg #[.bool false, .slice ya ma da]) ∧ Below W.heap.size W w') := fun W _ => denom_c sa xa ya na ca ma da W
    have C3 : Hid (∀ W, Below w2.heap.size w2 W → Calls Tryz.prog 14 #[.agg #[.bool sb, .slice xb nb cb], .agg #[.bool false, .slice ya ma da]] W fun e w' => ∃ r1 p1 k1 c1 q, e = .returned (.tuple #[.agg #[.bool r1, .slice p1 k1 c1], .int .i64 0]) ∧ Below W.heap.size W w' ∧ Hid (WRes (nb + ma) W w' r1 p1 k1 c1 q ∧ wv r1 q k1 = b.num * a.den)) := fun W hW => by
      have h1 := (RB2.out.below hW).num; have h2 := (RA2.out.below hW).den
      refine (wMul_c sb false xb ya nb ma cb da fb ga W (by omega) (by omega) h1.cap.1 h2.cap.1 h1.cap.2 h2.cap.2 h1.rd h2.rd h1.lm h2.lm).mono ?_
      rintro e w' ⟨r, z, k, e', h, er, rfl, hres, hans⟩
      obtain ⟨rfl, hv⟩ := hans.ok ⟨h1.wf, h2.wf⟩
      exact ⟨r, z, k, e', h, rfl, hres.res.bel, hres, by rw [hv, h1.val, h2.val]⟩
    go_upto_region 4 with fail
    go_cut [8, 9] from 26 to 33 (fun u t wx => ∃ (wy : World) (b4 : Nat) (s : Bool) (z : Option Addr) (k c : Nat), wy = wx ∧ u = .pointer (some ⟨b4, 0, none⟩) ∧ t = .int .i64 0 ∧ FlAt (2 * L) w2 wy b4 s z k c (b.num * a.den))
    case first =>
      go_region_held3 (fun w' => w'.cell? ⟨w.heap.size, 0, none⟩ = some (.bool sa) ∧ w'.cell? ⟨w.heap.size, 1, none⟩ = some (.slice xa na ca) ∧ w'.cell? ⟨w.heap.size, 2, none⟩ = some (.slice ya ma da) ∧ w'.cell? ⟨w.heap.size + 1, 0, none⟩ = some (.bool sb) ∧ w'.cell? ⟨w.heap.size + 1, 1, none⟩ = some (.slice xb nb cb) ∧ w'.cell? ⟨w.heap.size + 1, 2, none⟩ = some (.slice yb mb db))
        (refine ⟨?_, ?_, ?_, ?_, ?_, ?_⟩ <;> repeat (with_reducible first | assumption | refine kCd ?_ | refine kCa ?_ | refine kCs (by simp only [ne_eq]; omega) ?_ | refine kCb (by assumption) ?_))
        (first
          | (go_at_call 57; with_reducible refine (C1.out _ (by repeat (with_reducible first | assumption | exact Below.refl _ _ | refine Below.drew ?_ | refine kBa ?_ | refine kBb (by assumption) ?_))).mono ?_; rintro e v3 ⟨rfl, hb3⟩; have hza := hb3.size; (try simp at hza); obtain ⟨hc3, hf3⟩ := bcell hb3; (try have q100 : w2.heap.size < v3.heap.size := by omega))
          | (go_at_call 63; with_reducible refine (C2.out _ (by repeat (with_reducible first | assumption | exact Below.refl _ _ | refine Below.drew ?_ | refine kBa ?_ | refine kBb (by assumption) ?_))).mono ?_; rintro e v4 ⟨rfl, hb4⟩; have hzb := hb4.size; (try simp at hzb); obtain ⟨hc4, hf4⟩ := bcell hb4; (try have q100 : w2.heap.size < v4.heap.size := by omega); (try have q102 : v3.heap.size < v4.heap.size := by omega))
          | (go_at_call 14; with_reducible refine (C3.out _ (by repeat (with_reducible first | assumption | exact Below.refl _ _ | refine Below.drew ?_ | refine kBa ?_ | refine kBb (by assumption) ?_))).mono ?_; rintro e v5 ⟨r1, p1, k1, c1, q, rfl, hb5, HD⟩; have hzc := hb5.size; (try simp at hzc); obtain ⟨hc5, hf5⟩ := bcell hb5; (try have q100 : w2.heap.size < v5.heap.size := by omega); (try have q102 : v3.heap.size < v5.heap.size := by omega); (try have q104 : v4.heap.size < v5.heap.size := by omega)))
      all_goals
        go_wp2_with fail
        go_meet
        refine ⟨_, _, r1, p1, k1, c1, rfl, rfl, rfl, prod_of (by assumption) (by assumption) (by repeat (with_reducible first | assumption | exact Below.refl _ _ | refine Below.drew ?_ | refine kBa ?_ | refine kBb (by assumption) ?_)) HD.out (by repeat (with_reducible first | exact Turned.refl _ _ _ | refine Turned.drew ?_ | refine Turned.alloc ?_ _ | refine Turned.set ?_ (by first | omega | (simp; done) | (simp; omega)) (by first | omega | (simp; done) | (simp; omega)) _)) ⟨(by first | omega | (simp; done) | (simp; omega)), (by repeat (with_reducible first | assumption | exact kN0 | exact kN1 | (refine kM0 ?_; (simp <;> fail)) | (refine kM1 ?_; (simp <;> fail)) | exact kI0 kN0 | exact kI0 kN1 | (refine kI0 (kM0 ?_); (simp <;> fail)) | (refine kI0 (kM1 ?_); (simp <;> fail)) | refine kCd ?_ | refine kCe ?_ | refine kCo (by decide) ?_ | refine kCs (by simp only [ne_eq]; omega) ?_ | refine kCa ?_ | refine kCb (by assumption) ?_ | refine kId ?_ | refine kIs ?_ | refine kIa ?_ | refine kIb (by assumption) ?_)), (by repeat (with_reducible first | assumption | exact kN0 | exact kN1 | (refine kM0 ?_; (simp <;> fail)) | (refine kM1 ?_; (simp <;> fail)) | exact kI0 kN0 | exact kI0 kN1 | (refine kI0 (kM0 ?_); (simp <;> fail)) | (refine kI0 (kM1 ?_); (simp <;> fail)) | refine kCd ?_ | refine kCe ?_ | refine kCo (by decide) ?_ | refine kCs (by simp only [ne_eq]; omega) ?_ | refine kCa ?_ | refine kCb (by assumption) ?_ | refine kId ?_ | refine kIs ?_ | refine kIa ?_ | refine kIb (by assumption) ?_))⟩⟩
    case rest =>
      obtain ⟨w3, bY, sY, zY, kY, cY, rfl, rfl, rfl, hby, hb, ⟨fY, hwy⟩, hleY⟩ := hcut
      have BY3 := hid hby; have WY3 := hid hwy
      clear hby hwy za zb x0 x1 x2 y0 y1 y2 C1 C2 C3
      have BX3 := hid (BX2.out.below hb); have WX3 := hid (WX2.out.below hb); have HW3 := hid (HW2.out.trans (hb.mono HW2.out.size))
      clear BX2 WX2 HW2 hb
      obtain ⟨zx, x0, x1⟩ := BX3.out
      obtain ⟨zy, y0, y1⟩ := BY3.out
      go_wp2_with fail
      refine (wCmp_c sX sY zX zY kX kY cX cY fX fY _ (by omega) (by omega) WX3.out.rd WY3.out.rd WX3.out.lm WY3.out.lm).mono ?_
      rintro e w4 ⟨cc, er, rfl, hb, hcm⟩
      have hcc : er = 0 ∧ ROrd cc a b := by
        rcases hcm with ⟨_, h1, h2⟩ | ⟨h1, _⟩
        · rw [WX3.out.val, WY3.out.val] at h2
          exact ⟨h1, rord_of h2⟩
        · exact absurd ⟨WX3.out.wf, WY3.out.wf⟩ h1
      obtain ⟨rfl, hord⟩ := hcc
      have HO := hid hord; have HW4 := hid (HW3.out.trans (hb.mono HW3.out.size))
      clear hcm hord hb
      go_wp2
      go_ret2
      exact ⟨cc, rfl, HW4.out, HO.out⟩
end Go.Proofs.YtgklbedaebiglaaGreatDoor

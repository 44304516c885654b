/-
  Walks of the document's reference for rat: To, DocMake of short numbers; the statements' own num. Walks of the statements' own num, and of package rat's calls Make and Floor. The walk of package rat's call Floor. Walks of the document's Same and Light of rational numbers, and of the statements' own light. Walks of the document's reference for whole: Neg, Add, Sub, Mul, Sign, Cmp. Walks of the document's reference for whole: Sub, Sign, Cmp, two, DocNeg, DocCmp. Walks of the document's reference for whole: DocNeg, DocCmp, Doc. The walk of the document's reference for nat: bit, Bits, DivMod.
-/
import Derived.Test.YtbmdhfpgkemilaaGreatDoorZ7
import Derived.Test.YtbmdhfpgkemilaaGreatDoorZ3
namespace Go.Proofs.YtbmdhfpgkemilaaGreatDoor
open Go.RowKit

theorem Tg.set {w x} (h : Tg w x) (p : Addr) (u : Value) : Tg (w.setCell p u) x := fun a ha => by
  obtain ⟨arr, fr, hh⟩ := h a ha
  by_cases e : a.block = p.block
  · refine ⟨if p.spot.isSome then arr else arr.setIfInBounds p.off u, fr, ?_⟩
    rw [e] at hh ⊢
    simp [World.setCell, Array.getElem?_modify, hh]
  · exact ⟨arr, fr, (Below.heap_setCell w p u a.block e).trans hh⟩
theorem Tg.alloc {w x} (h : Tg w x) (o : Obj) : Tg (w.alloc o) x := h.below (below_alloc (Below.refl _ _) o)
theorem make_made {u v : Int} {s t : Bool} (hu : u = sg s u.natAbs) (hv : v = sg t v.natAbs) (h0 : 0 < v.natAbs) :
    ((u : Rat) / (v : Rat)).num = sg (s != t) (u.natAbs / u.natAbs.gcd v.natAbs) ∧ ((u : Rat) / (v : Rat)).den = v.natAbs / u.natAbs.gcd v.natAbs := by
  have e1 := Nat.div_mul_cancel (Nat.gcd_dvd_left u.natAbs v.natAbs)
  have e2 := Nat.div_mul_cancel (Nat.gcd_dvd_right u.natAbs v.natAbs)
  have := rmake (s := s) (t := t) (NA := u.natAbs / u.natAbs.gcd v.natAbs) (NB := v.natAbs / u.natAbs.gcd v.natAbs) (G := u.natAbs.gcd v.natAbs) (by rw [e2]; exact h0) (by rw [e1, e2])
  rw [e1, e2, ← hu, ← hv] at this
  exact this
/-- A number that a call answers without an error; its lists lie in blocks of limbs. -/
def RatTgt (L : Nat) (w w' : World) (e : Ending) (q : Rat) : Prop := ∃ s x n c f y m d g, e = .returned (.tuple #[.agg #[.bool s, .slice x n c, .slice y m d], .int .i64 0]) ∧ Below w.heap.size w w' ∧ Rn L w' s x n c f y m d g q ∧ Tg w' x ∧ Tg w' y
/-- The like, alone. -/
def RatTga (L : Nat) (w w' : World) (e : Ending) (q : Rat) : Prop := ∃ s x n c f y m d g, e = .returned (.agg #[.bool s, .slice x n c, .slice y m d]) ∧ Below w.heap.size w w' ∧ Rn L w' s x n c f y m d g q ∧ Tg w' x ∧ Tg w' y
theorem own_wn {w base x n c f} {V : Nat} (h : Own .u64 43 w base (.slice x n c) n f) (hl : Lm f n) (hf : Fm f n) (hv : vf f n = V) : Wn w false x n c f (V : Int) := by
  obtain ⟨h1, h2, h3, h4, _⟩ := h.slice
  exact ⟨h4, hl, (wfB_iff _ _ _).2 ⟨hf, fun h => by cases h⟩, ⟨h1, h2⟩, h3, hv⟩
theorem toWn_c {w x n c d} {V : Nat} (h : Dn w x n d V) (hn : n ≤ 1048576) :
    Calls Tryz.prog 49 #[.slice x n c] w fun e w' => ∃ z k c' f, e = .returned (.slice z k c') ∧ Below w.heap.size w w' ∧ Hid (k ≤ n ∧ Wn w' false z k c' f (V : Int) ∧ Tg w' z) :=
  (toOwn_c x n c d w hn h.rd h.dg h.fm).mono (fun _ _ ⟨z, k, c', f, h1, h2, h3, _, h4, h5, h6, h7⟩ => ⟨z, k, c', f, h1, h3, h4, own_wn h2 h5 h6 (h7.trans h.val), h2.tg⟩)
theorem fromDn_c {w s x n c f v} (h : Wn w s x n c f v) (hn : n ≤ 1048576) :
    Calls Tryz.prog 51 #[.slice x n c] w fun e w' => ∃ z k c', e = .returned (.slice z k c') ∧ Below w.heap.size w w' ∧ Hid (k ≤ 2 * n ∧ Dn w' z k (dig f) v.natAbs) :=
  (from_c x n c f w hn h.rd h.lm).mono (fun _ _ ⟨z, k, c', h1, h2, h3, h4, _, h6, h7, h8⟩ => ⟨z, k, c', h1, h2, h4, h3, h6, h7, h8.trans h.mag.nv⟩)

set_option maxRecDepth 100000 in
set_option maxHeartbeats 4000000 in
theorem qTo_c {w : World} {r : Bool} {x n c d y m e g} {A B : Nat} (ha : Dn w x n d A) (hb : Dn w y m g B) (hn : n ≤ 4096) (hm : m ≤ 4096) :
    Calls Tryz.prog 77 #[.agg #[.bool r, .slice x n c, .slice y m e]] w fun en w' => ∃ z k c' f z2 k2 c2 f2, en = .returned (.agg #[.bool r, .slice z k c', .slice z2 k2 c2]) ∧ Below w.heap.size w w' ∧ k ≤ n ∧ k2 ≤ m ∧ Wn w' false z k c' f (A : Int) ∧ Wn w' false z2 k2 c2 f2 (B : Int) ∧ Tg w' z ∧ Tg w' z2 := by
  have h1 := (ha.alloc (.cells #[.bool r, .slice x n c, .slice y m e] 99)).alloc (.cells #[.bool false, .slice none 0 0, .slice none 0 0] 47)
  have h2 := (hb.alloc (.cells #[.bool r, .slice x n c, .slice y m e] 99)).alloc (.cells #[.bool false, .slice none 0 0, .slice none 0 0] 47)
  have h3 := ob_new (w.alloc (.cells #[.bool r, .slice x n c, .slice y m e] 99)) 47
  rw [size_alloc1] at h3
  have h4 := below_alloc (below_alloc (Below.refl w.heap.size w) (.cells #[.bool r, .slice x n c, .slice y m e] 99)) (.cells #[.bool false, .slice none 0 0, .slice none 0 0] 47)
  have h5 := (bx3_at w (.bool r) (.slice x n c) (.slice y m e) 99).alloc (.cells #[.bool false, .slice none 0 0, .slice none 0 0] 47)
  clear ha hb
  go_enter Tryz.func77, Tryz.ntmps77
  go_wp2_with fail
  generalize (w.alloc (.cells #[.bool r, .slice x n c, .slice y m e] 99)).alloc (.cells #[.bool false, .slice none 0 0, .slice none 0 0] 47) = w1 at *
  have HA := hid h1; have HB := hid h2; have OB := h3; have HW := hid h4
  obtain ⟨hz, z0, z1, z2, zf⟩ := h3
  obtain ⟨hy, x0, x1, x2⟩ := h5
  clear h1 h2 h4
  have C1 : Hid (∀ W, Below w1.heap.size w1 W → Calls Tryz.prog 49 #[.slice x n c] W fun e w' => ∃ z k c' f, e = .returned (.slice z k c') ∧ Below W.heap.size W w' ∧ Hid (k ≤ n ∧ Wn w' false z k c' f (A : Int) ∧ Tg w' z)) := fun W hW => toWn_c (HA.out.below hW) (by omega)
  have C2 : Hid (∀ W, Below w1.heap.size w1 W → Calls Tryz.prog 49 #[.slice y m e] W fun e w' => ∃ z k c' f, e = .returned (.slice z k c') ∧ Below W.heap.size W w' ∧ Hid (k ≤ m ∧ Wn w' false z k c' f (B : Int) ∧ Tg w' z)) := fun W hW => toWn_c (HB.out.below hW) (by omega)
  go_region_held3 (fun w' => w'.cell? ⟨w.heap.size, 0, none⟩ = some (.bool r) ∧ w'.cell? ⟨w.heap.size, 1, none⟩ = some (.slice x n c) ∧ w'.cell? ⟨w.heap.size, 2, none⟩ = some (.slice y m e) ∧ (w'.cell? ⟨w.heap.size + 1, 0, none⟩).isSome = true ∧ (w'.cell? ⟨w.heap.size + 1, 1, none⟩).isSome = true ∧ (w'.cell? ⟨w.heap.size + 1, 2, none⟩).isSome = true ∧ w'.frozen? ⟨w.heap.size + 1, 0, none⟩ = false ∧ w'.frozen? ⟨w.heap.size + 1, 1, none⟩ = false ∧ w'.frozen? ⟨w.heap.size + 1, 2, none⟩ = false)
    (refine ⟨?_, ?_, ?_, ?_, ?_, ?_, ?_, ?_, ?_⟩ <;> repeat (with_reducible first | assumption | exact zf _ | exact kI0 z0 | exact kI0 z1 | exact kI0 z2 | exact tf _ | exact kI0 t0 | exact kI0 t1 | exact kI0 t2 | exact uf _ | exact kI0 u0 | exact kI0 u1 | exact kI0 u2 | refine kCd ?_ | refine kId ?_ | refine kFd ?_ | refine kCs (by simp only [ne_eq]; omega) ?_ | refine kIs ?_ | refine kFs ?_ | refine kCb (by assumption) ?_ | refine kIb (by assumption) ?_))
    (first
      | (go_at_call 49; with_reducible refine (C1.out _ (by repeat (with_reducible first | assumption | exact Below.refl _ _ | refine Below.drew ?_ | refine kBa ?_ | refine kBb (by assumption) ?_))).mono ?_; rintro e w5 ⟨za, ka, ca, fa, rfl, hb5, HP⟩; have TU : Ob w5 (w.heap.size + 1) := (by repeat (with_reducible first | exact OB | exact hO2 | exact TU | exact TV | exact TW | exact TX | exact TY | refine Ob.drew ?_ | refine kOb (by assumption) ?_)); obtain ⟨_, t0, t1, t2, tf⟩ := id TU)
      | (go_at_call 49; with_reducible refine (C2.out _ (by repeat (with_reducible first | assumption | exact Below.refl _ _ | refine Below.drew ?_ | refine kBa ?_ | refine kBb (by assumption) ?_))).mono ?_; rintro e w6 ⟨zb, kb, cb, fb, rfl, hb6, HQ⟩; have TV : Ob w6 (w.heap.size + 1) := (by repeat (with_reducible first | exact OB | exact hO2 | exact TU | exact TV | exact TW | exact TX | exact TY | refine Ob.drew ?_ | refine kOb (by assumption) ?_)); obtain ⟨_, u0, u1, u2, uf⟩ := id TV))
  have WA : Wn w6 false za ka ca fa (A : Int) := HP.out.2.1.below hb6
  have hb : Below w1.heap.size w1 w6 := (by repeat (with_reducible first | assumption | exact Below.refl _ _ | refine Below.drew ?_ | refine kBa ?_ | refine kBb (by assumption) ?_))
  go_wp2
  exact bodyPost_ret (v := .agg #[.bool r, .slice za ka ca, .slice zb kb cb]) (by simp [results, Tryz.results77, go_sem, u0, u1, u2]) rfl ⟨za, ka, ca, fa, zb, kb, cb, fb, rfl, below_st (HW.out.trans (hb.mono HW.out.size)) (by omega), HP.out.1, HQ.out.1, TV.wn WA, TV.wn HQ.out.2.1, ((((HP.out.2.2.below hb6).set _ _).set _ _).set _ _), (((HQ.out.2.2.set _ _).set _ _).set _ _)⟩

theorem mk_boxes {w w1 : World} {sa xa na ca sb xb nb cb} (hb : Below (((w.alloc (.cells #[.bool sa, .slice xa na ca] 36)).alloc (.cells #[.bool sb, .slice xb nb cb] 36)).alloc (.cells #[.bool false, .slice none 0 0, .slice none 0 0] 47)).heap.size (((w.alloc (.cells #[.bool sa, .slice xa na ca] 36)).alloc (.cells #[.bool sb, .slice xb nb cb] 36)).alloc (.cells #[.bool false, .slice none 0 0, .slice none 0 0] 47)) w1) :
    Bx w1 w.heap.size sa xa na ca ∧ Bx w1 (w.heap.size + 1) sb xb nb cb ∧ Ob w1 (w.heap.size + 1 + 1) ∧ Below w.heap.size w w1 := by
  have h0 : Bx (w.alloc (.cells #[.bool sa, .slice xa na ca] 36)) w.heap.size sa xa na ca := ⟨by simp, kN0, kN1⟩
  have h1 : Bx ((w.alloc (.cells #[.bool sa, .slice xa na ca] 36)).alloc (.cells #[.bool sb, .slice xb nb cb] 36)) (w.heap.size + 1) sb xb nb cb := by
    have := size_alloc1 w (.cells #[.bool sa, .slice xa na ca] 36)
    refine ⟨by simp, ?_, ?_⟩
    · rw [← this]; exact kN0
    · rw [← this]; exact kN1
  have h2 := ob_new ((w.alloc (.cells #[.bool sa, .slice xa na ca] 36)).alloc (.cells #[.bool sb, .slice xb nb cb] 36)) 47
  rw [size_alloc1, size_alloc1] at h2
  exact ⟨((h0.alloc _).alloc _).below hb, (h1.alloc _).below hb, h2.below hb, (below_alloc (below_alloc (below_alloc (Below.refl w.heap.size w) _) _) _).trans (hb.mono (by simp; omega))⟩

set_option maxRecDepth 100000 in
set_option maxHeartbeats 4000000 in
theorem docMake_c {w : World} {sa : Bool} {xa : Option Addr} {na ca : Nat} {fa : Nat → Int} {sb : Bool} {xb : Option Addr} {nb cb : Nat} {fb : Nat → Int} {u v : Int} (ha : Wn w sa xa na ca fa u) (hb : Wn w sb xb nb cb fb v) (hu : u ≠ 0) (hv : v ≠ 0) (hna : na ≤ 1) (hnb1 : nb ≤ 1) :
    Calls Tryz.prog 131 #[.agg #[.bool sa, .slice xa na ca], .agg #[.bool sb, .slice xb nb cb]] w fun e w' => RatTgt 2 w w' e ((u : Rat) / (v : Rat)) := by
  have HA0 := hid ha; have HB0 := hid hb
  have hvA : 0 < v.natAbs := by omega
  have hnb : 0 < nb := hb.mag.pos (by omega)
  clear ha hb
  have hn0 : ((nb : Int) == 0) = false := by simp; omega
  go_enter Tryz.func131, Tryz.ntmps131
  go_wp2_with fail
  refine (rwForm_c sa xa na ca fa _ (by omega) (((HA0.out.alloc _).alloc _).alloc _).rd).mono ?_
  rintro e w1 ⟨rfl, hb⟩
  rw [HA0.out.wf]
  obtain ⟨ba, bb, ob, hw⟩ := mk_boxes hb
  have BA1 := hid ba; have BB1 := hid bb; have OB1 := hid ob; have HW1 := hid hw; have HA1 := hid (HA0.out.below hw); have HB1 := hid (HB0.out.below hw)
  clear ba bb ob hw hb HA0 HB0
  obtain ⟨zb, b0, b1⟩ := BB1.out
  go_wp2_with fail
  refine (rwForm_c sb xb nb cb fb _ (by omega) HB1.out.rd).mono ?_
  rintro e w2 ⟨rfl, hb⟩
  rw [HB1.out.wf]
  clear zb b0 b1
  have BA2 := hid (BA1.out.below hb); have BB2 := hid (BB1.out.below hb); have OB2 := hid (OB1.out.below hb); have HA2 := hid (HA1.out.below hb); have HB2 := hid (HB1.out.below hb); have HW2 := hid (HW1.out.trans (hb.mono HW1.out.size))
  clear BA1 BB1 OB1 HA1 HB1 HW1 hb
  obtain ⟨za, a0, a1⟩ := BA2.out
  obtain ⟨zb, b0, b1⟩ := BB2.out
  obtain ⟨hz, z0, z1, z2, zf⟩ := OB2.out
  have hO2 := OB2.out
  have C1 : Hid (∀ W, Below w2.heap.size w2 W → Calls Tryz.prog 51 #[.slice xa na ca] W fun e w' => ∃ z k c', e = .returned (.slice z k c') ∧ Below W.heap.size W w' ∧ Hid (k ≤ 2 * na ∧ Dn w' z k (dig fa) u.natAbs)) := fun W hW => fromDn_c (HA2.out.below hW) (by omega)
  have C2 : Hid (∀ W, Below w2.heap.size w2 W → Calls Tryz.prog 51 #[.slice xb nb cb] W fun e w' => ∃ z k c', e = .returned (.slice z k c') ∧ Below W.heap.size W w' ∧ Hid (k ≤ 2 * nb ∧ Dn w' z k (dig fb) v.natAbs)) := fun W hW => fromDn_c (HB2.out.below hW) (by omega)
  have C3 : Hid (∀ (W : World) (z : Option Addr) (k cap : Nat), k ≤ 2 → Calls Tryz.prog 98 #[.bool (!(sa == sb)), .slice z k cap] W fun e w' => ∃ r, e = .returned (.agg #[.bool r, .slice z k cap]) ∧ Below W.heap.size W w' ∧ Hid (r = ((!(sa == sb)) && decide (0 < k)))) := fun W z k cap hk => (zMk_c (!(sa == sb)) z k cap W (by omega)).mono (fun e w' ⟨r, h1, h2, h3⟩ => ⟨r, h1, h3, h2⟩)
  have C4 : Hid (∀ (W : World) (r : Bool) (z : Option Addr) (k cap : Nat) (y : Option Addr) (m e : Nat), k ≤ 2 → m ≤ 2 → Dn W z k (dig fa) u.natAbs → Dn W y m (dig fb) v.natAbs → Calls Tryz.prog 135 #[.agg #[.bool r, .slice z k cap], .slice y m e] W fun e w' => ∃ r' z k c' z2 k2 c2, e = .returned (.agg #[.bool r', .slice z k c', .slice z2 k2 c2]) ∧ Below W.heap.size W w' ∧ Hid (k ≤ 2 ∧ k2 ≤ 2 ∧ r' = (r && decide (0 < k)) ∧ (∃ d', Dn w' z k d' (u.natAbs / u.natAbs.gcd v.natAbs)) ∧ ∃ d2, Dn w' z2 k2 d2 (v.natAbs / u.natAbs.gcd v.natAbs))) := fun W r z k cap y m e hk hm h1 h2 => (mkSmall_c h1 h2 (by omega) hk hm hvA).mono (fun e w' ⟨r', z, k, c', d', z2, k2, c2, d2, h1, h2, h3, h4, h5, h6, h7⟩ => ⟨r', z, k, c', z2, k2, c2, h1, h2, h3, h4, h5, ⟨d', h6⟩, d2, h7⟩)
  have C5 : Hid (∀ (W : World) (r : Bool) (z : Option Addr) (k cap : Nat) (y : Option Addr) (m e : Nat), k ≤ 2 → m ≤ 2 → (∃ d', Dn W z k d' (u.natAbs / u.natAbs.gcd v.natAbs)) → (∃ d2, Dn W y m d2 (v.natAbs / u.natAbs.gcd v.natAbs)) → Calls Tryz.prog 77 #[.agg #[.bool r, .slice z k cap, .slice y m e]] W fun en w' => ∃ z k' c' f z2 k2 c2 f2, en = .returned (.agg #[.bool r, .slice z k' c', .slice z2 k2 c2]) ∧ Below W.heap.size W w' ∧ Hid (k' ≤ k ∧ k2 ≤ m ∧ Wn w' false z k' c' f ((u.natAbs / u.natAbs.gcd v.natAbs : Nat) : Int) ∧ Wn w' false z2 k2 c2 f2 ((v.natAbs / u.natAbs.gcd v.natAbs : Nat) : Int) ∧ Tg w' z ∧ Tg w' z2)) := fun W r z k cap y m e hk hm ⟨_, h1⟩ ⟨_, h2⟩ => qTo_c h1 h2 (by omega) (by omega)
  go_wp2_with fail
  go_region_held3 (fun w' => w'.cell? ⟨w.heap.size, 0, none⟩ = some (.bool sa) ∧ w'.cell? ⟨w.heap.size, 1, none⟩ = some (.slice xa na ca) ∧ w'.cell? ⟨w.heap.size + 1, 0, none⟩ = some (.bool sb) ∧ w'.cell? ⟨w.heap.size + 1, 1, none⟩ = some (.slice xb nb cb) ∧ (w'.cell? ⟨w.heap.size + 1 + 1, 0, none⟩).isSome = true ∧ (w'.cell? ⟨w.heap.size + 1 + 1, 1, none⟩).isSome = true ∧ (w'.cell? ⟨w.heap.size + 1 + 1, 2, none⟩).isSome = true ∧ w'.frozen? ⟨w.heap.size + 1 + 1, 0, none⟩ = false ∧ w'.frozen? ⟨w.heap.size + 1 + 1, 1, none⟩ = false ∧ w'.frozen? ⟨w.heap.size + 1 + 1, 2, none⟩ = false)
    (refine ⟨?_, ?_, ?_, ?_, ?_, ?_, ?_, ?_, ?_, ?_⟩ <;> repeat (with_reducible first | assumption | exact zf _ | exact kI0 z0 | exact kI0 z1 | exact kI0 z2 | exact tf _ | exact kI0 t0 | exact kI0 t1 | exact kI0 t2 | exact uf _ | exact kI0 u0 | exact kI0 u1 | exact kI0 u2 | exact vf _ | exact kI0 v0 | exact kI0 v1 | exact kI0 v2 | exact sf _ | exact kI0 s0 | exact kI0 s1 | exact kI0 s2 | exact rf _ | exact kI0 r0 | exact kI0 r1 | exact kI0 r2 | refine kCd ?_ | refine kId ?_ | refine kFd ?_ | refine kCs (by simp only [ne_eq]; omega) ?_ | refine kIs ?_ | refine kFs ?_ | refine kCb (by assumption) ?_ | refine kIb (by assumption) ?_))
    (first
      | (go_at_call 51; with_reducible refine (C1.out _ (by repeat (with_reducible first | assumption | exact Below.refl _ _ | refine Below.drew ?_ | refine kBa ?_ | refine kBb (by assumption) ?_))).mono ?_; rintro e w5 ⟨zp, kp, cp, rfl, hb5, HP⟩; have hkp : kp ≤ 2 := (by have := HP.out.1; omega); have TU : Ob w5 (w.heap.size + 1 + 1) := (by repeat (with_reducible first | exact OB | exact hO2 | exact TU | exact TV | exact TW | exact TX | exact TY | refine Ob.drew ?_ | refine kOb (by assumption) ?_)); obtain ⟨_, t0, t1, t2, tf⟩ := id TU)
      | (go_at_call 98; with_reducible refine (C3.out _ zp kp cp hkp).mono ?_; rintro e w6 ⟨r, rfl, hb6, HR⟩; have TV : Ob w6 (w.heap.size + 1 + 1) := (by repeat (with_reducible first | exact OB | exact hO2 | exact TU | exact TV | exact TW | exact TX | exact TY | refine Ob.drew ?_ | refine kOb (by assumption) ?_)); obtain ⟨_, u0, u1, u2, uf⟩ := id TV)
      | (go_at_call 51; with_reducible refine (C2.out _ (by repeat (with_reducible first | assumption | exact Below.refl _ _ | refine Below.drew ?_ | refine kBa ?_ | refine kBb (by assumption) ?_))).mono ?_; rintro e w7 ⟨zq, kq, cq, rfl, hb7, HQ⟩; have hkq : kq ≤ 2 := (by have := HQ.out.1; omega); have TW : Ob w7 (w.heap.size + 1 + 1) := (by repeat (with_reducible first | exact OB | exact hO2 | exact TU | exact TV | exact TW | exact TX | exact TY | refine Ob.drew ?_ | refine kOb (by assumption) ?_)); obtain ⟨_, v0, v1, v2, vf⟩ := id TW)
      | (go_at_call 135; with_reducible refine (C4.out _ r zp kp cp zq kq cq hkp hkq ((HP.out.2.below hb6).below hb7) HQ.out.2).mono ?_; rintro e w8 ⟨r', zr, kr, cr, zs, ks, cs, rfl, hb8, HM⟩; have TX : Ob w8 (w.heap.size + 1 + 1) := (by repeat (with_reducible first | exact OB | exact hO2 | exact TU | exact TV | exact TW | exact TX | exact TY | refine Ob.drew ?_ | refine kOb (by assumption) ?_)); obtain ⟨_, s0, s1, s2, sf⟩ := id TX)
      | (go_at_call 77; with_reducible refine (C5.out _ r' zr kr cr zs ks cs HM.out.1 HM.out.2.1 HM.out.2.2.2.1 HM.out.2.2.2.2).mono ?_; rintro e w9 ⟨zn, kn, cn, fn, zd, kd, cd, fd, rfl, hb9, HT⟩; have TY : Ob w9 (w.heap.size + 1 + 1) := (by repeat (with_reducible first | exact OB | exact hO2 | exact TU | exact TV | exact TW | exact TX | exact TY | refine Ob.drew ?_ | refine kOb (by assumption) ?_)); obtain ⟨_, r0, r1, r2, rf⟩ := id TY))
  have hb : Below w2.heap.size w2 w9 := (by repeat (with_reducible first | assumption | exact Below.refl _ _ | refine Below.drew ?_ | refine kBa ?_ | refine kBb (by assumption) ?_))
  have hT := HT.out
  obtain ⟨e1, e2⟩ := make_made HA2.out.sgn HB2.out.sgn hvA
  have hM := HM.out
  have hRR : r' = ((sa != sb) && decide (0 < kn)) := by
    rw [hM.2.2.1, HR.out]
    have e3 : 0 < u.natAbs / u.natAbs.gcd v.natAbs := Nat.div_pos (Nat.gcd_le_left _ (by omega)) (Nat.gcd_pos_of_pos_right _ hvA)
    have k1 : 0 < kn := hT.2.2.1.pos (by omega)
    have k2 : 0 < kr := by omega
    have k3 : 0 < kp := by
      rcases Nat.eq_zero_or_pos kp with h | h
      · have h2 := HP.out.2.val; rw [h] at h2; have : (0 : Int) = u.natAbs := h2; omega
      · exact h
    simp [k1, k2, k3, bne]
  go_wp2
  refine bodyPost_ret (v := .tuple #[.agg #[.bool r', .slice zn kn cn, .slice zd kd cd], .int .i64 0]) (by simp [results, Tryz.results131, go_sem, r0, r1, r2]) rfl ⟨r', zn, kn, cn, fn, zd, kd, cd, fd, rfl, below_st (HW2.out.trans (hb.mono HW2.out.size)) (by omega), ⟨?_, ?_, by omega, by omega⟩, ((hT.2.2.2.2.1.set _ _).set _ _).set _ _, ((hT.2.2.2.2.2.set _ _).set _ _).set _ _⟩
  · rw [e1]; exact TY.wn (hT.2.2.1.resign hRR)
  · rw [e2]; exact TY.wn hT.2.2.2.1
end Go.Proofs.YtbmdhfpgkemilaaGreatDoor
namespace Go.Proofs.YtbmdhfpgkemilaaGreatDoor
open Go.RowKit

theorem Wn.len1 {w s x n c f v} (h : Wn w s x n c f v) (hv : v.natAbs < 18446744073709551616) : n ≤ 1 := by
  rcases Nat.lt_or_ge 1 n with h2 | h2
  · have h1 := vf_form_ge h.lm h.fm (by omega)
    have h3 := pw_mono (show 1 ≤ n - 1 by omega)
    have h4 : pw 1 = 18446744073709551616 := by simp [pw]
    have h5 := h.mag.nv
    omega
  · omega
set_option maxRecDepth 100000 in
set_option maxHeartbeats 4000000 in
theorem num_c (w : World) (n d : Int) (hn : -9223372036854775808 ≤ n ∧ n ≤ 9223372036854775807) (hd : -9223372036854775808 ≤ d ∧ d ≤ 9223372036854775807) (h1 : n ≠ 0) (h2 : d ≠ 0) :
    Calls Tryz.prog 72 #[.int .i64 n, .int .i64 d] w fun e w' => RatTga 2 w w' e ((n : Rat) / (d : Rat)) := by
  have h3 := ob_new w 47
  have h4 := below_alloc (Below.refl w.heap.size w) (.cells #[.bool false, .slice none 0 0, .slice none 0 0] 47)
  go_enter Tryz.func72, Tryz.ntmps72
  go_wp2_with fail
  generalize w.alloc (.cells #[.bool false, .slice none 0 0, .slice none 0 0] 47) = w1 at *
  have OB1 := hid h3; have HW1 := hid h4
  clear h3 h4
  refine (docOf_c n _ hn.1 hn.2).mono ?_
  rintro e w2 ⟨s2, x2, k2, c2, f2, rfl, hr2, hv2⟩
  have hb := hr2.res.bel
  have WN2 := hid (hr2.wn hv2)
  have hk2 := (hr2.wn hv2).len1 (by omega)
  clear hr2 hv2
  have OB2 := hid (OB1.out.below hb); have HW2 := hid (HW1.out.trans (hb.mono HW1.out.size))
  clear OB1 HW1 hb
  go_wp2_with fail
  refine (docOf_c d _ hd.1 hd.2).mono ?_
  rintro e w3 ⟨s3, x3, k3, c3, f3, rfl, hr3, hv3⟩
  have hb := hr3.res.bel
  have WD3 := hid (hr3.wn hv3)
  have hk3 := (hr3.wn hv3).len1 (by omega)
  clear hr3 hv3
  have OB3 := hid (OB2.out.below hb); have WN3 := hid (WN2.out.below hb); have HW3 := hid (HW2.out.trans (hb.mono HW2.out.size))
  clear OB2 WN2 HW2 hb
  go_wp2_with fail
  refine (docMake_c WN3.out WD3.out h1 h2 hk2 hk3).mono ?_
  rintro e w4 ⟨rs, zn, kn, cn, fn, zd, kd, cd, fd, rfl, hb, hr, ht1, ht2⟩
  have HR := hid hr; have G1 := hid ht1; have G2 := hid ht2
  clear hr ht1 ht2
  have OB4 := hid (OB3.out.below hb); have HW4 := hid (HW3.out.trans (hb.mono HW3.out.size))
  clear OB3 HW3 hb
  obtain ⟨hz, z0, z1, z2, zf⟩ := OB4.out
  go_wp2
  exact bodyPost_ret (v := .agg #[.bool rs, .slice zn kn cn, .slice zd kd cd]) (by simp [results, Tryz.results72, go_sem, z0, z1, z2, hz]) rfl ⟨rs, zn, kn, cn, fn, zd, kd, cd, fd, rfl, below_alloc (below_st HW4.out (Nat.le_refl _)) _, (OB4.out.rn HR.out).alloc _, (((G1.out.set _ _).set _ _).set _ _).alloc _, (((G2.out.set _ _).set _ _).set _ _).alloc _⟩

set_option maxRecDepth 100000 in
set_option maxHeartbeats 4000000 in
theorem rMake_n {w : World} {sa : Bool} {xa : Option Addr} {na ca : Nat} {fa : Nat → Int} {sb : Bool} {xb : Option Addr} {nb cb : Nat} {fb : Nat → Int} {u v : Int} (ha : Wn w sa xa na ca fa u) (hb : Wn w sb xb nb cb fb v) {L : Nat} (hv : v ≠ 0) (hna : na ≤ L) (hnbL : nb ≤ L) (hL : L ≤ 1000) :
    Calls Tryz.prog 70 #[.agg #[.bool sa, .slice xa na ca], .agg #[.bool sb, .slice xb nb cb]] w fun e w' => RatTup L w w' e ((u : Rat) / (v : Rat)) := by
  have HA0 := hid ha; have HB0 := hid hb
  have hvA : 0 < v.natAbs := by omega
  have hnb : 0 < nb := hb.mag.pos (by omega)
  clear ha hb
  have hn0 : ((nb : Int) == 0) = false := by simp; omega
  go_enter Tryz.func70, Tryz.ntmps70
  go_wp2_with fail
  refine (wForm_c sa xa na ca fa _ (by omega) (((HA0.out.alloc _).alloc _).alloc _).rd).mono ?_
  rintro e w1 ⟨rfl, hb⟩
  rw [HA0.out.wf]
  obtain ⟨ba, bb, ob, hw⟩ := mk_boxes hb
  have BA1 := hid ba; have BB1 := hid bb; have OB1 := hid ob; have HW1 := hid hw; have HA1 := hid (HA0.out.below hw); have HB1 := hid (HB0.out.below hw)
  clear ba bb ob hw hb HA0 HB0
  obtain ⟨zb, b0, b1⟩ := BB1.out
  go_wp2_with fail
  refine (wForm_c sb xb nb cb fb _ (by omega) HB1.out.rd).mono ?_
  rintro e w2 ⟨rfl, hb⟩
  rw [HB1.out.wf]
  clear zb b0 b1
  have BA2 := hid (BA1.out.below hb); have BB2 := hid (BB1.out.below hb); have OB2 := hid (OB1.out.below hb); have HA2 := hid (HA1.out.below hb); have HB2 := hid (HB1.out.below hb); have HW2 := hid (HW1.out.trans (hb.mono HW1.out.size))
  clear BA1 BB1 OB1 HA1 HB1 HW1 hb
  obtain ⟨za, a0, a1⟩ := BA2.out
  obtain ⟨zb, b0, b1⟩ := BB2.out
  obtain ⟨hz, z0, z1, z2, zf⟩ := OB2.out
  go_wp2_with fail
  refine (ratGcd_c HA2.out.mag HB2.out.mag (by omega) (by omega)).mono ?_
  rintro e w3 ⟨zg, kg, cg, fg, rfl, hb, hg⟩
  have WG3 := hid hg
  have hG0 : 0 < u.natAbs.gcd v.natAbs := Nat.gcd_pos_of_pos_right _ hvA
  have hkg : kg ≤ L := Nat.le_trans (hg.len_le HB2.out.mag (Nat.gcd_le_right _ hvA)) (by omega)
  clear hg za a0 a1 zb b0 b1 hz z0 z1 z2 zf
  have BA3 := hid (BA2.out.below hb); have BB3 := hid (BB2.out.below hb); have OB3 := hid (OB2.out.below hb); have HA3 := hid (HA2.out.below hb); have HB3 := hid (HB2.out.below hb); have HW3 := hid (HW2.out.trans (hb.mono HW2.out.size))
  clear BA2 BB2 OB2 HA2 HB2 HW2 hb
  obtain ⟨za, a0, a1⟩ := BA3.out
  obtain ⟨zb, b0, b1⟩ := BB3.out
  go_wp2_with fail
  refine (div_n HA3.out.mag WG3.out hG0 (by omega) (by omega)).mono ?_
  rintro e w4 ⟨zn, kn, cn, fn, zx, kx, cx, rfl, hb, hkn, hn⟩
  have WN4 := hid hn
  clear hn za a0 a1 zb b0 b1
  have BA4 := hid (BA3.out.below hb); have BB4 := hid (BB3.out.below hb); have OB4 := hid (OB3.out.below hb); have HA4 := hid (HA3.out.below hb); have HB4 := hid (HB3.out.below hb); have WG4 := hid (WG3.out.below hb); have HW4 := hid (HW3.out.trans (hb.mono HW3.out.size))
  clear BA3 BB3 OB3 HA3 HB3 WG3 HW3 hb
  obtain ⟨za, a0, a1⟩ := BA4.out
  obtain ⟨zb, b0, b1⟩ := BB4.out
  go_wp2_with fail
  refine (div_n HB4.out.mag WG4.out hG0 (by omega) (by omega)).mono ?_
  rintro e w5 ⟨zd, kd, cd, fd, zy, ky, cy, rfl, hb, hkd, hn⟩
  have WD5 := hid hn
  clear hn za a0 a1 zb b0 b1
  have BA5 := hid (BA4.out.below hb); have BB5 := hid (BB4.out.below hb); have OB5 := hid (OB4.out.below hb); have HA5 := hid (HA4.out.below hb); have HB5 := hid (HB4.out.below hb); have WN5 := hid (WN4.out.below hb); have HW5 := hid (HW4.out.trans (hb.mono HW4.out.size))
  clear BA4 BB4 OB4 HA4 HB4 WN4 HW4 hb
  obtain ⟨za, a0, a1⟩ := BA5.out
  obtain ⟨zb, b0, b1⟩ := BB5.out
  obtain ⟨e1, e2⟩ := make_made HA5.out.sgn HB5.out.sgn hvA
  have E1 := hid e1; have E2 := hid e2
  clear e1 e2
  go_wp2_with fail
  refine (rsigned_c _ zn zd kn cn kd cd _ (by omega)).mono ?_
  rintro e w6 ⟨rs, rfl, HRS, hb⟩
  clear za a0 a1 zb b0 b1
  have OB6 := hid (OB5.out.below hb); have WN6 := hid (WN5.out.below hb); have WD6 := hid (WD5.out.below hb); have HW6 := hid (HW5.out.trans (hb.mono HW5.out.size))
  clear OB5 WN5 WD5 HW5 hb
  obtain ⟨hz, z0, z1, z2, zf⟩ := OB6.out
  go_wp2
  refine bodyPost_ret (v := .tuple #[.agg #[.bool rs, .slice zn kn cn, .slice zd kd cd], .int .i64 0]) (by simp [results, Tryz.results70, go_sem, z0, z1, z2]) rfl ⟨rs, zn, kn, cn, fn, zd, kd, cd, fd, rfl, below_st HW6.out (by omega), ⟨?_, ?_, by omega, by omega⟩⟩
  · rw [E1.out]; exact OB6.out.wn (WN6.out.resign HRS.out)
  · rw [E2.out]; exact OB6.out.wn WD6.out
end Go.Proofs.YtbmdhfpgkemilaaGreatDoor
namespace Go.Proofs.YtbmdhfpgkemilaaGreatDoor
open Go.RowKit

theorem kM0 {w : World} {g : Nat} {x y : Value} {t : TypeId} (h : g = w.heap.size) : (w.alloc (.cells #[x, y] t)).cell? ⟨g, 0, none⟩ = some x := by subst h; exact kN0
theorem kM1 {w : World} {g : Nat} {x y : Value} {t : TypeId} (h : g = w.heap.size) : (w.alloc (.cells #[x, y] t)).cell? ⟨g, 1, none⟩ = some y := by subst h; exact kN1
theorem kCe {w : World} {a : Addr} {v : Value} (h : (w.cell? a).isSome = true) : (w.setCell a v).cell? a = some v := World.cell?_setCell_same' w a v h
theorem kCo {w : World} {b i j : Nat} {u v : Value} (hij : i ≠ j) (h : w.cell? ⟨b, j, none⟩ = some u) : (w.setCell ⟨b, i, none⟩ v).cell? ⟨b, j, none⟩ = some u := by
  rw [World.cell?_setCell_other _ _ _ _ (fun he => hij (congrArg Addr.off he))]; exact h
/-- A new box for an answer of two cells. -/
structure Ob2 (w : World) (B : Nat) : Prop where
  z : B < w.heap.size
  z0 : w.cell? ⟨B, 0, none⟩ = some (.bool false)
  z1 : w.cell? ⟨B, 1, none⟩ = some (.slice none 0 0)
  zf : ∀ o, w.frozen? ⟨B, o, none⟩ = false
theorem Ob2.below {w w' B} (h : Ob2 w B) (hb : Below w.heap.size w w') : Ob2 w' B := by
  obtain ⟨h1, h2⟩ := bcell hb
  exact ⟨Nat.lt_of_lt_of_le h.z hb.size, kCb hb h.z0, kCb hb h.z1, fun o => (h2 _ _ h.z).trans (h.zf o)⟩
theorem ob2_new (w : World) (t : TypeId) : Ob2 (w.alloc (.cells #[.bool false, .slice none 0 0] t)) w.heap.size := by
  refine ⟨by simp, by simp [go_sem], by simp [go_sem], fun o => ?_⟩
  have e := heap_alloc_new w (.cells #[.bool false, .slice none 0 0] t)
  simp only [World.frozen?, e]; simp
theorem Ob2.wn {w B u0 u1 s x n c f v} (h : Ob2 w B) (hx : Wn w s x n c f v) : Wn ((w.setCell ⟨B, 0, none⟩ u0).setCell ⟨B, 1, none⟩ u1) s x n c f v :=
  ⟨rd_setne (cell_off (by decide) h.z1) (fun i h => by cases h) (rd_setne h.z0 (fun i h => by cases h) hx.rd), hx.lm, hx.wf, hx.cap, hx.nil, hx.val⟩
theorem below_st2 {w0 w : World} {B : Nat} {u0 u1 : Value} (hw : Below w0.heap.size w0 w) (hB : w0.heap.size ≤ B) :
    Below w0.heap.size w0 ((w.setCell ⟨B, 0, none⟩ u0).setCell ⟨B, 1, none⟩ u1) :=
  below_turned hw hw.size (((Turned.refl w0.heap.size (B + 1) w).set (x := ⟨B, 0, none⟩) hB (by simp) _).set (x := ⟨B, 1, none⟩) hB (by simp) _) (Nat.le_refl _)
theorem flr_ediv {a b q r : Int} (hb : 0 < b) (h : Flr a b q r) : q = a / b := by
  obtain ⟨h1, h2⟩ := h
  have h3 : 0 ≤ r ∧ r < b := by omega
  have h4 : a / b = q := by
    rw [h1, Int.add_comm, Int.add_mul_ediv_right _ _ (by omega), Int.ediv_eq_zero_of_lt h3.1 h3.2]; omega
  exact h4.symm
/-- What stands behind the quotient. -/
structure FlAt (L : Nat) (w1 wx : World) (b4 : Nat) (s : Bool) (z : Option Addr) (k c : Nat) (v : Int) : Prop where
  bx : Bx wx b4 s z k c
  bel : Below w1.heap.size w1 wx
  wn : ∃ f, Wn wx s z k c f v
  le : k ≤ L + 2
theorem fl_of {L : Nat} {w1 wx W5 w5 : World} {b4 : Nat} {r1 : Bool} {p1 : Option Addr} {k1 c1 n : Nat} {q : Nat → Int} {v : Int} (hn : n ≤ L) (hW : Below w1.heap.size w1 W5) (hD : WRes (n + 2) W5 w5 r1 p1 k1 c1 q ∧ wv r1 q k1 = v) (hT : Turned w1.heap.size W5.heap.size w5 wx) (hb : Bx wx b4 r1 p1 k1 c1) : FlAt L w1 wx b4 r1 p1 k1 c1 v := by
  have hQ := hD.1.res.turned hW hT
  have := hQ.le
  exact ⟨hb, hQ.bel, ⟨q, hQ.rd, hQ.lm, hD.1.wfB, hQ.ncap, hQ.nil', hD.2⟩, by omega⟩

set_option maxRecDepth 100000 in
set_option maxHeartbeats 8000000 in
theorem rFloor_n {L : Nat} {w : World} {sa : Bool} {xa : Option Addr} {na ca : Nat} {fa : Nat → Int} {ya : Option Addr} {ma da : Nat} {ga : Nat → Int} {a : Rat} (ha : Rn L w sa xa na ca fa ya ma da ga a) (hL : L ≤ 1000) :
    Calls Tryz.prog 41 #[.agg #[.bool sa, .slice xa na ca, .slice ya ma da]] w fun e w' => ∃ s z k c f, e = .returned (.tuple #[.agg #[.bool s, .slice z k c], .int .i64 0]) ∧ Below w.heap.size w w' ∧ k ≤ L + 2 ∧ Wn w' s z k c f a.floor := by
  have HA0 := hid ha
  have b1 := ha.ln; have b2 := ha.ld
  clear ha
  go_enter Tryz.func41, Tryz.ntmps41
  go_wp2_with fail
  refine (rForm_n ((HA0.out.alloc _).alloc _) (by omega)).mono ?_
  rintro e w1 ⟨rfl, hbel⟩
  have hbx := ((bx3_at w _ _ _ _).alloc _).below hbel
  have hob := (ob2_new (w.alloc _) _).below hbel
  rw [size_alloc1] at hob
  have HW1 : Hid (Below w.heap.size w w1) := (below_alloc (below_alloc (Below.refl w.heap.size w) _) _).trans (hbel.mono (by simp; omega))
  have HA1 := hid (HA0.out.below HW1.out); have OB1 := hid hob
  clear hbel hob HA0
  obtain ⟨za, x0, x1, x2⟩ := hbx
  have C1 : Hid (∀ W, Below w1.heap.size w1 W → Calls Tryz.prog 91 #[.agg #[.bool sa, .slice xa na ca, .slice ya ma da]] W fun e w' => e = .returned (.agg #[.bool sa, .slice xa na ca]) ∧ Below W.heap.size W w') := fun W _ => numer_c sa xa ya na ca ma da W
  have C2 : Hid (∀ W, Below w1.heap.size w1 W → Calls Tryz.prog 95 #[.agg #[.bool sa, .slice xa na ca, .slice ya ma da]] W fun e w' => e = .returned (.agg #[.bool false, .slice ya ma da]) ∧ Below W.heap.size W w') := fun W _ => denom_c sa xa ya na ca ma da W
  have C3 : Hid (∀ W, Below w1.heap.size w1 W → Calls Tryz.prog 20 #[.agg #[.bool sa, .slice xa na ca], .agg #[.bool false, .slice ya ma da]] W fun e w' => ∃ r1 p1 k1 c1 q r2 p2 k2 c2, e = .returned (.tuple #[.agg #[.bool r1, .slice p1 k1 c1], .agg #[.bool r2, .slice p2 k2 c2], .int .i64 0]) ∧ Below W.heap.size W w' ∧ Hid (WRes (na + 2) W w' r1 p1 k1 c1 q ∧ wv r1 q k1 = a.floor)) := fun W hW => by
    have hh := HA1.out.below hW
    refine (wDivide_c sa false xa ya na ma ca da fa ga W (by omega) (by omega) hh.num.rd hh.den.rd hh.num.lm hh.den.lm).mono ?_
    rintro e w' ⟨r1, p1, k1, c1, q, r2, p2, k2, c2, r, er, rfl, h1, h2, h3⟩
    have hd := a.den_pos
    have hm0 : 0 < ma := hh.den.pos (by omega)
    rcases h3 with ⟨_, _, rfl, h4⟩ | ⟨_, h4, _⟩ | ⟨h4, _⟩
    · refine ⟨r1, p1, k1, c1, q, r2, p2, k2, c2, rfl, h1.res.bel, h1, ?_⟩
      rw [hh.num.val, hh.den.val] at h4
      rw [flr_ediv (by omega) h4, rfloor]
    · omega
    · exact absurd ⟨hh.num.wf, hh.den.wf⟩ h4
  go_upto_region 3 with fail
  go_cut [4, 5, 6] from 11 to 19 (fun u v t wx => ∃ b4 b5 s z k c, u = .pointer (some ⟨b4, 0, none⟩) ∧ v = .pointer (some ⟨b5, 0, none⟩) ∧ t = .int .i64 0 ∧ FlAt L w1 wx b4 s z k c a.floor)
  case first =>
    go_region_held3 (fun w' => w'.cell? ⟨w.heap.size, 0, none⟩ = some (.bool sa) ∧ w'.cell? ⟨w.heap.size, 1, none⟩ = some (.slice xa na ca) ∧ w'.cell? ⟨w.heap.size, 2, none⟩ = some (.slice ya ma da))
      (refine ⟨?_, ?_, ?_⟩ <;> repeat (with_reducible first | assumption | refine kCd ?_ | refine kCa ?_ | refine kCs (by simp only [ne_eq]; omega) ?_ | refine kCb (by assumption) ?_))
      (first
        | (go_at_call 91; with_reducible refine (C1.out _ (by repeat (with_reducible first | assumption | exact Below.refl _ _ | refine Below.drew ?_ | refine kBa ?_ | refine kBb (by assumption) ?_))).mono ?_; rintro e w3 ⟨rfl, hb3⟩; have hza := hb3.size; (try simp at hza); obtain ⟨hc3, hf3⟩ := bcell hb3; (try have q100 : w1.heap.size < w3.heap.size := by omega); (try have q101 : w1.heap.size + 1 < w3.heap.size := by omega))
        | (go_at_call 95; with_reducible refine (C2.out _ (by repeat (with_reducible first | assumption | exact Below.refl _ _ | refine Below.drew ?_ | refine kBa ?_ | refine kBb (by assumption) ?_))).mono ?_; rintro e w4 ⟨rfl, hb4⟩; have hzb := hb4.size; (try simp at hzb); obtain ⟨hc4, hf4⟩ := bcell hb4; (try have q100 : w1.heap.size < w4.heap.size := by omega); (try have q101 : w1.heap.size + 1 < w4.heap.size := by omega); (try have q102 : w3.heap.size < w4.heap.size := by omega); (try have q103 : w3.heap.size + 1 < w4.heap.size := by omega))
        | (go_at_call 20; with_reducible refine (C3.out _ (by repeat (with_reducible first | assumption | exact Below.refl _ _ | refine Below.drew ?_ | refine kBa ?_ | refine kBb (by assumption) ?_))).mono ?_; rintro e w5 ⟨r1, p1, k1, c1, q, r2, p2, k2, c2, rfl, hb5, HD⟩; have hzc := hb5.size; (try simp at hzc); obtain ⟨hc5, hf5⟩ := bcell hb5; (try have q100 : w1.heap.size < w5.heap.size := by omega); (try have q101 : w1.heap.size + 1 < w5.heap.size := by omega); (try have q102 : w3.heap.size < w5.heap.size := by omega); (try have q103 : w3.heap.size + 1 < w5.heap.size := by omega); (try have q104 : w4.heap.size < w5.heap.size := by omega); (try have q105 : w4.heap.size + 1 < w5.heap.size := by omega)))
    all_goals
      go_wp2_with fail
      go_meet
      refine ⟨_, _, r1, p1, k1, c1, rfl, rfl, rfl, fl_of b1 (by repeat (with_reducible first | assumption | exact Below.refl _ _ | refine Below.drew ?_ | refine kBa ?_ | refine kBb (by assumption) ?_)) HD.out (by repeat (with_reducible first | exact Turned.refl _ _ _ | refine Turned.drew ?_ | refine Turned.alloc ?_ _ | refine Turned.set ?_ (by first | omega | (simp; done) | (simp; omega)) (by first | omega | (simp; done) | (simp; omega)) _)) ⟨(by first | omega | (simp; done) | (simp; omega)), (by repeat (with_reducible first | assumption | exact kN0 | exact kN1 | (refine kM0 ?_; (simp <;> fail)) | (refine kM1 ?_; (simp <;> fail)) | exact kI0 kN0 | exact kI0 kN1 | (refine kI0 (kM0 ?_); (simp <;> fail)) | (refine kI0 (kM1 ?_); (simp <;> fail)) | refine kCd ?_ | refine kCe ?_ | refine kCo (by decide) ?_ | refine kCs (by simp only [ne_eq]; omega) ?_ | refine kCa ?_ | refine kCb (by assumption) ?_ | refine kId ?_ | refine kIs ?_ | refine kIa ?_ | refine kIb (by assumption) ?_)), (by repeat (with_reducible first | assumption | exact kN0 | exact kN1 | (refine kM0 ?_; (simp <;> fail)) | (refine kM1 ?_; (simp <;> fail)) | exact kI0 kN0 | exact kI0 kN1 | (refine kI0 (kM0 ?_); (simp <;> fail)) | (refine kI0 (kM1 ?_); (simp <;> fail)) | refine kCd ?_ | refine kCe ?_ | refine kCo (by decide) ?_ | refine kCs (by simp only [ne_eq]; omega) ?_ | refine kCa ?_ | refine kCb (by assumption) ?_ | refine kId ?_ | refine kIs ?_ | refine kIa ?_ | refine kIb (by assumption) ?_))⟩⟩
  case rest =>
    obtain ⟨b4, b5, s, z, k, c, rfl, rfl, rfl, hbx, hbel, ⟨f, hwn⟩, hle⟩ := hcut
    have OB2' := hid (OB1.out.below hbel); have HW2 := hid (HW1.out.trans (hbel.mono HW1.out.size)); have WN := hid hwn
    clear hbel hwn x0 x1 x2 za C1 C2 C3 OB1 HW1
    obtain ⟨zb, y0, y1⟩ := hbx
    obtain ⟨hz, z0, z1, zf⟩ := OB2'.out
    go_wp2
    exact bodyPost_ret (v := .tuple #[.agg #[.bool s, .slice z k c], .int .i64 0]) (by simp [results, Tryz.results41, go_sem, z0, z1]) rfl ⟨s, z, k, c, f, rfl, below_st2 HW2.out (by omega), hle, OB2'.out.wn WN.out⟩
end Go.Proofs.YtbmdhfpgkemilaaGreatDoor
namespace Go.Proofs.YtbmdhfpgkemilaaGreatDoor
open Go.RowKit

/-- Two boxes of three cells. -/
theorem two_new {w w1 : World} {a0 a1 a2 b0 b1 b2 : Value} {t : TypeId} (hb : Below ((w.alloc (.cells #[a0, a1, a2] t)).alloc (.cells #[b0, b1, b2] t)).heap.size ((w.alloc (.cells #[a0, a1, a2] t)).alloc (.cells #[b0, b1, b2] t)) w1) :
    Bx3 w1 w.heap.size a0 a1 a2 ∧ Bx3 w1 (w.heap.size + 1) b0 b1 b2 ∧ Below w.heap.size w w1 := by
  have h2 := bx3_at (w.alloc (.cells #[a0, a1, a2] t)) b0 b1 b2 t
  rw [size_alloc1] at h2
  exact ⟨((bx3_at w a0 a1 a2 t).alloc _).below hb, h2.below hb, (below_alloc (below_alloc (Below.refl w.heap.size w) _) _).trans (hb.mono (by simp; omega))⟩
theorem beq_bool_true {s t : Bool} (h : s = t) : (s == t) = true := by subst h; cases s <;> rfl
theorem beq_bool_false {s t : Bool} (h : ¬ s = t) : (s == t) = false := by cases s <;> cases t <;> first | rfl | exact absurd rfl h
set_option maxHeartbeats 1000000 in
theorem rSame_c (sa : Bool) (xa ya : Option Addr) (na ca ma da : Nat) (fa ga : Nat → Int) (sb : Bool) (xb yb : Option Addr) (nb cb mb db : Nat) (fb gb : Nat → Int) (w : World) (h1 : Rd .u64 w xa na fa) (h2 : Rd .u64 w ya ma ga) (h3 : Rd .u64 w xb nb fb) (h4 : Rd .u64 w yb mb gb) (l1 : na ≤ 140737488355328) (l2 : ma ≤ 140737488355328) (l3 : nb ≤ 140737488355328) (l4 : mb ≤ 140737488355328) :
    Calls Tryz.prog 26 #[.agg #[.bool sa, .slice xa na ca, .slice ya ma da], .agg #[.bool sb, .slice xb nb cb, .slice yb mb db]] w fun e w' => ∃ b, e = .returned (.bool b) ∧ Below w.heap.size w w' ∧ (b = true ↔ sa = sb ∧ Alk na nb fa fb ∧ Alk ma mb ga gb) := by
  have H1 := hid h1; have H2 := hid h2; have H3 := hid h3; have H4 := hid h4
  clear h1 h2 h3 h4
  by_cases hs : sa = sb
  · have hse := beq_bool_true hs
    have HS := hid hs
    clear hs
    go_enter Tryz.func26, Tryz.ntmps26
    go_wp2_with fail
    refine (same_c xa xb na nb ca cb fa fb _ l1 l3 ((H1.out.alloc _).alloc _) ((H3.out.alloc _).alloc _)).mono ?_
    rintro e w1 ⟨⟨q, hq⟩, b, rfl, hb1⟩
    obtain ⟨⟨za, x0, x1, x2⟩, ⟨zb, y0, y1, y2⟩, hw⟩ := two_new (drewN_below hq)
    have HW1 := hid hw; have HB1 := hid hb1
    clear hq hw hb1
    cases b
    · go_wp2
      go_ret
      exact ⟨false, rfl, HW1.out, (fun h => by cases h), fun h => HB1.out.2 h.2.1⟩
    · go_wp2_with fail
      refine (same_c ya yb ma mb da db ga gb _ l2 l4 (H2.out.below HW1.out (Nat.le_refl _)) (H4.out.below HW1.out (Nat.le_refl _))).mono ?_
      rintro e w2 ⟨⟨q, hq⟩, b, rfl, hb2⟩
      have HW2 := hid (HW1.out.trans ((drewN_below hq).mono HW1.out.size)); have HB2 := hid hb2
      clear hq hb2
      go_wp2
      go_ret
      exact ⟨b, rfl, HW2.out, fun h => ⟨HS.out, HB1.out.1 (by simp), HB2.out.1 h⟩, fun h => HB2.out.2 h.2.2⟩
  · have hse := beq_bool_false hs
    have HS := hid hs
    clear hs
    go_enter Tryz.func26, Tryz.ntmps26
    go_wp2
    go_ret
    exact ⟨false, rfl, below_alloc (below_alloc (Below.refl _ _) _) _, (fun h => by cases h), fun h => absurd h.1 HS.out⟩
theorem rSame_n {L L' w sa xa na ca fa ya ma da ga a sb xb nb cb fb yb mb db gb b} (ha : Rn L w sa xa na ca fa ya ma da ga a) (hb : Rn L' w sb xb nb cb fb yb mb db gb b) (h1 : L ≤ 4096) (h2 : L' ≤ 4096) :
    Calls Tryz.prog 26 #[.agg #[.bool sa, .slice xa na ca, .slice ya ma da], .agg #[.bool sb, .slice xb nb cb, .slice yb mb db]] w fun e w' => e = .returned (.bool (decide (a = b))) ∧ Below w.heap.size w w' := by
  have l1 := ha.ln; have l2 := ha.ld; have l3 := hb.ln; have l4 := hb.ld
  refine (rSame_c sa xa ya na ca ma da fa ga sb xb yb nb cb mb db fb gb w ha.num.rd ha.den.rd hb.num.rd hb.den.rd (by omega) (by omega) (by omega) (by omega)).mono ?_
  rintro e w' ⟨c, rfl, h3, h4⟩
  refine ⟨?_, h3⟩
  have h5 := h4.trans (ha.inj hb)
  cases c
  · have : ¬ (a = b) := fun h => by have := h5.2 h; cases this
    simp [this]
  · simp [h5.1 rfl]
def lg (n m k : Nat) : Bool := decide (n ≤ k) && decide (m ≤ k)
theorem rLight_c (s : Bool) (x y : Option Addr) (n c m d : Nat) (w : World) (hn : n ≤ 9223372036854775807) (hm : m ≤ 9223372036854775807) :
    Calls Tryz.prog 79 #[.agg #[.bool s, .slice x n c, .slice y m d], .int .i64 20] w fun e w' => e = .returned (.bool (lg n m 20)) ∧ Below w.heap.size w w' := by
  by_cases h1 : n ≤ 20
  · have d1 : decide ((n : Int) ≤ 20) = true := by simp; omega
    by_cases h2 : m ≤ 20
    · have d2 : decide ((m : Int) ≤ 20) = true := by simp; omega
      rw [show lg n m 20 = true by simp [lg, h1, h2]]
      go_enter Tryz.func79, Tryz.ntmps79
      go_wp2
      go_ret
      exact ⟨rfl, below_alloc (Below.refl _ _) _⟩
    · have d2 : decide ((m : Int) ≤ 20) = false := by simp; omega
      rw [show lg n m 20 = false by simp [lg, h2]]
      go_enter Tryz.func79, Tryz.ntmps79
      go_wp2
      go_ret
      exact ⟨rfl, below_alloc (Below.refl _ _) _⟩
  · have d1 : decide ((n : Int) ≤ 20) = false := by simp; omega
    rw [show lg n m 20 = false by simp [lg, h1]]
    go_enter Tryz.func79, Tryz.ntmps79
    go_wp2
    go_ret
    exact ⟨rfl, below_alloc (Below.refl _ _) _⟩
set_option maxHeartbeats 1000000 in
theorem rlight2_c (sa : Bool) (xa ya : Option Addr) (na ca ma da : Nat) (sb : Bool) (xb yb : Option Addr) (nb cb mb db : Nat) (w : World) (l1 : na ≤ 9223372036854775807) (l2 : ma ≤ 9223372036854775807) (l3 : nb ≤ 9223372036854775807) (l4 : mb ≤ 9223372036854775807) :
    Calls Tryz.prog 29 #[.agg #[.bool sa, .slice xa na ca, .slice ya ma da], .agg #[.bool sb, .slice xb nb cb, .slice yb mb db]] w fun e w' => e = .returned (.bool (lg na ma 20 && lg nb mb 20)) ∧ Below w.heap.size w w' := by
  go_enter Tryz.func29, Tryz.ntmps29
  go_wp2_with fail
  refine (rLight_c sa xa ya na ca ma da _ l1 l2).mono ?_
  rintro e w1 ⟨rfl, hb⟩
  obtain ⟨⟨za, x0, x1, x2⟩, ⟨zb, y0, y1, y2⟩, hw⟩ := two_new hb
  have HW1 := hid hw
  clear hb hw
  cases h1 : lg na ma 20
  · have E : Hid ((lg na ma 20 && lg nb mb 20) = false) := hid (by rw [h1]; rfl)
    go_wp2
    go_ret
    exact ⟨by rw [E.out]; rfl, HW1.out⟩
  · have E : Hid ((lg na ma 20 && lg nb mb 20) = lg nb mb 20) := hid (by rw [h1]; rfl)
    clear h1
    go_wp2_with fail
    refine (rLight_c sb xb yb nb cb mb db _ l3 l4).mono ?_
    rintro e w2 ⟨rfl, hb⟩
    go_wp2
    go_ret
    exact ⟨by rw [E.out]; rfl, HW1.out.trans (hb.mono HW1.out.size)⟩
end Go.Proofs.YtbmdhfpgkemilaaGreatDoor
namespace Go.Proofs.YtbmdhfpgkemilaaGreatDoor
open Go.RowKit

theorem Ob2.drew {w B} (h : Ob2 w B) : Ob2 w.drew B := ⟨h.z, h.z0, h.z1, h.zf⟩
theorem kO2b {w w' B} (hb : Below w.heap.size w w') (h : Ob2 w B) : Ob2 w' B := h.below hb
theorem Ob2.alloc {w B} (h : Ob2 w B) (o : Obj) : Ob2 (w.alloc o) B := h.below (below_alloc (Below.refl _ _) o)
theorem Ob2.next {w w' B} {o : Obj} (h : Ob2 w B) (hb : Below (w.alloc o).heap.size (w.alloc o) w') : Ob2 w' B := (h.alloc o).below hb
theorem Ob2.dn {w B u0 u1 x n d V} (h : Ob2 w B) (hx : Dn w x n d V) : Dn ((w.setCell ⟨B, 0, none⟩ u0).setCell ⟨B, 1, none⟩ u1) x n d V :=
  ⟨rd_setne (cell_off (by decide) h.z1) (fun i h => by cases h) (rd_setne h.z0 (fun i h => by cases h) hx.rd), hx.dg, hx.fm, hx.val⟩
/-- A whole number of the reference: sign and digits. -/
structure Zn (w : World) (s : Bool) (x : Option Addr) (n : Nat) (d : Nat → Int) (v : Int) : Prop where
  dn : Dn w x n d v.natAbs
  sgn : v = sg s v.natAbs
  pos : s = true → 0 < n
theorem Zn.below {w w' s x n d v} (h : Zn w s x n d v) (hb : Below w.heap.size w w') : Zn w' s x n d v := ⟨h.dn.below hb, h.sgn, h.pos⟩
theorem Zn.alloc {w s x n d v} (h : Zn w s x n d v) (o : Obj) : Zn (w.alloc o) s x n d v := ⟨h.dn.alloc o, h.sgn, h.pos⟩
theorem Zn.next {w w' s x n d v} {o : Obj} (h : Zn w s x n d v) (hb : Below (w.alloc o).heap.size (w.alloc o) w') : Zn w' s x n d v := (h.alloc o).below hb
theorem Zn.of {w z k d V} {r s : Bool} (h : Dn w z k d V) (hr : r = (s && decide (0 < k))) : Zn w r z k d (sg s V) := by
  refine ⟨by rw [sg_natAbs]; exact h, ?_, fun h => by rw [hr] at h; simp at h; exact h.2⟩
  rw [sg_natAbs]
  rcases Nat.eq_zero_or_pos k with h0 | h0
  · subst h0
    have := h.zero
    subst this
    cases s <;> cases r <;> rfl
  · have : r = s := by rw [hr]; simp [h0]
    rw [this]
theorem mkZ_c {w : World} {s : Bool} {z : Option Addr} {k c : Nat} (hk : k ≤ 100000) :
    Calls Tryz.prog 98 #[.bool s, .slice z k c] w fun e w' => ∃ r, e = .returned (.agg #[.bool r, .slice z k c]) ∧ Below w.heap.size w w' ∧ Hid (r = (s && decide (0 < k))) := (zMk_c s z k c w (by omega)).mono (fun _ _ ⟨r, h1, h2, h3⟩ => ⟨r, h1, h3, h2⟩)
/-- A whole number of the reference that a call answers. -/
def ZAns (L : Nat) (w w' : World) (e : Ending) (v : Int) : Prop := ∃ s x n c d, e = .returned (.agg #[.bool s, .slice x n c]) ∧ Below w.heap.size w w' ∧ n ≤ L ∧ Zn w' s x n d v
theorem zboxes {w : World} (sa : Bool) (xa : Option Addr) (na ca : Nat) (sb : Bool) (xb : Option Addr) (nb cb : Nat) (t : TypeId) :
    Bx (((w.alloc (.cells #[.bool sa, .slice xa na ca] t)).alloc (.cells #[.bool sb, .slice xb nb cb] t)).alloc (.cells #[.bool false, .slice none 0 0] t)) w.heap.size sa xa na ca ∧ Bx (((w.alloc (.cells #[.bool sa, .slice xa na ca] t)).alloc (.cells #[.bool sb, .slice xb nb cb] t)).alloc (.cells #[.bool false, .slice none 0 0] t)) (w.heap.size + 1) sb xb nb cb ∧ Ob2 (((w.alloc (.cells #[.bool sa, .slice xa na ca] t)).alloc (.cells #[.bool sb, .slice xb nb cb] t)).alloc (.cells #[.bool false, .slice none 0 0] t)) (w.heap.size + 1 + 1) ∧ Below w.heap.size w (((w.alloc (.cells #[.bool sa, .slice xa na ca] t)).alloc (.cells #[.bool sb, .slice xb nb cb] t)).alloc (.cells #[.bool false, .slice none 0 0] t)) := by
  have h0 : Bx (w.alloc (.cells #[.bool sa, .slice xa na ca] t)) w.heap.size sa xa na ca := ⟨by simp, kN0, kN1⟩
  have h1 : Bx ((w.alloc (.cells #[.bool sa, .slice xa na ca] t)).alloc (.cells #[.bool sb, .slice xb nb cb] t)) (w.heap.size + 1) sb xb nb cb := by
    have := size_alloc1 w (.cells #[.bool sa, .slice xa na ca] t)
    refine ⟨by simp, ?_, ?_⟩
    · rw [← this]; exact kN0
    · rw [← this]; exact kN1
  have h2 := ob2_new ((w.alloc (.cells #[.bool sa, .slice xa na ca] t)).alloc (.cells #[.bool sb, .slice xb nb cb] t)) t
  rw [size_alloc1, size_alloc1] at h2
  exact ⟨(h0.alloc _).alloc _, h1.alloc _, h2, below_alloc (below_alloc (below_alloc (Below.refl w.heap.size w) _) _) _⟩
theorem zmul_val {u v : Int} {s t : Bool} (hu : u = sg s u.natAbs) (hv : v = sg t v.natAbs) : u * v = sg (!(s == t)) (u.natAbs * v.natAbs) := by
  have := sg_mul s t u.natAbs v.natAbs
  rw [← hu, ← hv] at this
  exact this
theorem zadd_same {u v : Int} {s t : Bool} (h : s = t) (hu : u = sg s u.natAbs) (hv : v = sg t v.natAbs) : u + v = sg s (u.natAbs + v.natAbs) := by
  subst h
  cases s
  · have e1 : u = u.natAbs := hu
    have e2 : v = v.natAbs := hv
    show u + v = ((u.natAbs + v.natAbs : Nat) : Int); omega
  · have e1 : u = -(u.natAbs : Int) := hu
    have e2 : v = -(v.natAbs : Int) := hv
    show u + v = -((u.natAbs + v.natAbs : Nat) : Int); omega
theorem zadd_more {u v : Int} {s t : Bool} (h : ¬ s = t) (hu : u = sg s u.natAbs) (hv : v = sg t v.natAbs) (hle : v.natAbs ≤ u.natAbs) : u + v = sg s (u.natAbs - v.natAbs) := by
  cases s <;> cases t
  · exact absurd rfl h
  · have e1 : u = u.natAbs := hu
    have e2 : v = -(v.natAbs : Int) := hv
    show u + v = ((u.natAbs - v.natAbs : Nat) : Int); omega
  · have e1 : u = -(u.natAbs : Int) := hu
    have e2 : v = v.natAbs := hv
    show u + v = -((u.natAbs - v.natAbs : Nat) : Int); omega
  · exact absurd rfl h
theorem zadd_less {u v : Int} {s t : Bool} (h : ¬ s = t) (hu : u = sg s u.natAbs) (hv : v = sg t v.natAbs) (hle : u.natAbs ≤ v.natAbs) : u + v = sg t (v.natAbs - u.natAbs) := by
  rw [Int.add_comm]; exact zadd_more (fun e => h e.symm) hv hu hle

set_option maxRecDepth 100000 in
set_option maxHeartbeats 4000000 in
theorem zMul_c {w : World} {sa : Bool} {xa : Option Addr} {na ca : Nat} {da : Nat → Int} {sb : Bool} {xb : Option Addr} {nb cb : Nat} {db : Nat → Int} {u v : Int} (ha : Zn w sa xa na da u) (hb : Zn w sb xb nb db v) (hn : na ≤ 4096) (hm : nb ≤ 4096) :
    Calls Tryz.prog 127 #[.agg #[.bool sa, .slice xa na ca], .agg #[.bool sb, .slice xb nb cb]] w fun e w' => ZAns (na + nb) w w' e (u * v) := by
  obtain ⟨ba, bb, ob, hw⟩ := zboxes (w := w) sa xa na ca sb xb nb cb 83
  have h1 := ((ha.alloc (.cells #[.bool sa, .slice xa na ca] 83)).alloc (.cells #[.bool sb, .slice xb nb cb] 83)).alloc (.cells #[.bool false, .slice none 0 0] 83)
  have h2 := ((hb.alloc (.cells #[.bool sa, .slice xa na ca] 83)).alloc (.cells #[.bool sb, .slice xb nb cb] 83)).alloc (.cells #[.bool false, .slice none 0 0] 83)
  clear ha hb
  go_enter Tryz.func127, Tryz.ntmps127
  go_wp2_with fail
  generalize ((w.alloc (.cells #[.bool sa, .slice xa na ca] 83)).alloc (.cells #[.bool sb, .slice xb nb cb] 83)).alloc (.cells #[.bool false, .slice none 0 0] 83) = w1 at *
  have HA := hid h1; have HB := hid h2; have HW := hid hw
  obtain ⟨za, a0, a1⟩ := ba
  obtain ⟨zb, b0, b1⟩ := bb
  obtain ⟨hz, z0, z1, zf⟩ := id ob
  clear h1 h2 hw
  have C1 : Hid (∀ W, Below w1.heap.size w1 W → Calls Tryz.prog 50 #[.slice xa na ca, .slice xb nb cb] W fun e w' => ∃ z k c' q, e = .returned (.slice z k c') ∧ Below W.heap.size W w' ∧ Hid (k ≤ na + nb ∧ Dn w' z k q (u.natAbs * v.natAbs))) := fun W hW => dMul_c (HA.out.dn.below hW) (HB.out.dn.below hW) (by omega) (by omega)
  have C2 : Hid (∀ (W : World) (z : Option Addr) (k c : Nat), k ≤ na + nb → Calls Tryz.prog 98 #[.bool (!(sa == sb)), .slice z k c] W fun e w' => ∃ r, e = .returned (.agg #[.bool r, .slice z k c]) ∧ Below W.heap.size W w' ∧ Hid (r = ((!(sa == sb)) && decide (0 < k)))) := fun W z k c hk => mkZ_c (by omega)
  go_wp2_with fail
  go_region_held3 (fun w' => w'.cell? ⟨w.heap.size, 0, none⟩ = some (.bool sa) ∧ w'.cell? ⟨w.heap.size, 1, none⟩ = some (.slice xa na ca) ∧ w'.cell? ⟨w.heap.size + 1, 0, none⟩ = some (.bool sb) ∧ w'.cell? ⟨w.heap.size + 1, 1, none⟩ = some (.slice xb nb cb) ∧ (w'.cell? ⟨w.heap.size + 1 + 1, 0, none⟩).isSome = true ∧ (w'.cell? ⟨w.heap.size + 1 + 1, 1, none⟩).isSome = true ∧ w'.frozen? ⟨w.heap.size + 1 + 1, 0, none⟩ = false ∧ w'.frozen? ⟨w.heap.size + 1 + 1, 1, none⟩ = false)
    (refine ⟨?_, ?_, ?_, ?_, ?_, ?_, ?_, ?_⟩ <;> repeat (with_reducible first | assumption | exact zf _ | exact kI0 z0 | exact kI0 z1 | exact tf _ | exact kI0 t0 | exact kI0 t1 | exact uf _ | exact kI0 u0 | exact kI0 u1 | refine kCd ?_ | refine kId ?_ | refine kFd ?_ | refine kCs (by simp only [ne_eq]; omega) ?_ | refine kIs ?_ | refine kFs ?_ | refine kCb (by assumption) ?_ | refine kIb (by assumption) ?_))
    (first
      | (go_at_call 50; with_reducible refine (C1.out _ (by repeat (with_reducible first | assumption | exact Below.refl _ _ | refine Below.drew ?_ | refine kBa ?_ | refine kBb (by assumption) ?_))).mono ?_; rintro e v5 ⟨zp, kp, cp, qp, rfl, hv5, HP⟩; have TU : Ob2 v5 (w.heap.size + 1 + 1) := (by repeat (with_reducible first | exact ob | exact TU | exact TV | refine Ob2.drew ?_ | refine kO2b (by assumption) ?_)); obtain ⟨_, t0, t1, tf⟩ := id TU)
      | (go_at_call 98; with_reducible refine (C2.out _ zp kp cp HP.out.1).mono ?_; rintro e v6 ⟨rr, rfl, hv6, HR⟩; have TV : Ob2 v6 (w.heap.size + 1 + 1) := (by repeat (with_reducible first | exact ob | exact TU | exact TV | refine Ob2.drew ?_ | refine kO2b (by assumption) ?_)); obtain ⟨_, u0, u1, uf⟩ := id TV))
  have hb : Below w1.heap.size w1 v6 := (by repeat (with_reducible first | assumption | exact Below.refl _ _ | refine Below.drew ?_ | refine kBa ?_ | refine kBb (by assumption) ?_))
  have DP := HP.out.2.below hv6
  go_wp2
  refine bodyPost_ret (v := .agg #[.bool rr, .slice zp kp cp]) (by simp [results, Tryz.results127, go_sem, u0, u1]) rfl ⟨rr, zp, kp, cp, qp, rfl, below_st2 (HW.out.trans (hb.mono HW.out.size)) (by omega), by have := HP.out.1; omega, ?_⟩
  rw [zmul_val HA.out.sgn HB.out.sgn]
  exact Zn.of (TV.dn DP) HR.out

set_option maxRecDepth 100000 in
set_option maxHeartbeats 4000000 in
theorem zAdd_same {w : World} {sa : Bool} {xa : Option Addr} {na ca : Nat} {da : Nat → Int} {sb : Bool} {xb : Option Addr} {nb cb : Nat} {db : Nat → Int} {u v : Int} (ha : Zn w sa xa na da u) (hb : Zn w sb xb nb db v) (hn : na ≤ 4096) (hm : nb ≤ 4096) (hs : sa = sb) :
    Calls Tryz.prog 136 #[.agg #[.bool sa, .slice xa na ca], .agg #[.bool sb, .slice xb nb cb]] w fun e w' => ZAns (na + nb + 1) w w' e (u + v) := by
  obtain ⟨ba, bb, ob, hw⟩ := zboxes (w := w) sa xa na ca sb xb nb cb 83
  have h1 := ((ha.alloc (.cells #[.bool sa, .slice xa na ca] 83)).alloc (.cells #[.bool sb, .slice xb nb cb] 83)).alloc (.cells #[.bool false, .slice none 0 0] 83)
  have h2 := ((hb.alloc (.cells #[.bool sa, .slice xa na ca] 83)).alloc (.cells #[.bool sb, .slice xb nb cb] 83)).alloc (.cells #[.bool false, .slice none 0 0] 83)
  clear ha hb
  have hse := beq_bool_true hs
  have HS := hid hs
  clear hs
  go_enter Tryz.func136, Tryz.ntmps136
  go_wp2_with fail
  generalize ((w.alloc (.cells #[.bool sa, .slice xa na ca] 83)).alloc (.cells #[.bool sb, .slice xb nb cb] 83)).alloc (.cells #[.bool false, .slice none 0 0] 83) = w1 at *
  have HA := hid h1; have HB := hid h2; have HW := hid hw
  obtain ⟨za, a0, a1⟩ := ba
  obtain ⟨zb, b0, b1⟩ := bb
  obtain ⟨hz, z0, z1, zf⟩ := id ob
  clear h1 h2 hw
  have C1 : Hid (∀ W, Below w1.heap.size w1 W → Calls Tryz.prog 112 #[.slice xa na ca, .slice xb nb cb] W fun e w' => ∃ z k c' q, e = .returned (.slice z k c') ∧ Below W.heap.size W w' ∧ Hid (k ≤ na + nb + 1 ∧ Dn w' z k q (u.natAbs + v.natAbs))) := fun W hW => dAdd_c (HA.out.dn.below hW) (HB.out.dn.below hW) (by omega) (by omega)
  have C2 : Hid (∀ (W : World) (z : Option Addr) (k c : Nat), k ≤ na + nb + 1 → Calls Tryz.prog 98 #[.bool (sa), .slice z k c] W fun e w' => ∃ r, e = .returned (.agg #[.bool r, .slice z k c]) ∧ Below W.heap.size W w' ∧ Hid (r = ((sa) && decide (0 < k)))) := fun W z k c hk => mkZ_c (by omega)
  go_wp2_with fail
  go_region_held3 (fun w' => w'.cell? ⟨w.heap.size, 0, none⟩ = some (.bool sa) ∧ w'.cell? ⟨w.heap.size, 1, none⟩ = some (.slice xa na ca) ∧ w'.cell? ⟨w.heap.size + 1, 0, none⟩ = some (.bool sb) ∧ w'.cell? ⟨w.heap.size + 1, 1, none⟩ = some (.slice xb nb cb) ∧ (w'.cell? ⟨w.heap.size + 1 + 1, 0, none⟩).isSome = true ∧ (w'.cell? ⟨w.heap.size + 1 + 1, 1, none⟩).isSome = true ∧ w'.frozen? ⟨w.heap.size + 1 + 1, 0, none⟩ = false ∧ w'.frozen? ⟨w.heap.size + 1 + 1, 1, none⟩ = false)
    (refine ⟨?_, ?_, ?_, ?_, ?_, ?_, ?_, ?_⟩ <;> repeat (with_reducible first | assumption | exact zf _ | exact kI0 z0 | exact kI0 z1 | exact tf _ | exact kI0 t0 | exact kI0 t1 | exact uf _ | exact kI0 u0 | exact kI0 u1 | refine kCd ?_ | refine kId ?_ | refine kFd ?_ | refine kCs (by simp only [ne_eq]; omega) ?_ | refine kIs ?_ | refine kFs ?_ | refine kCb (by assumption) ?_ | refine kIb (by assumption) ?_))
    (first
      | (go_at_call 112; with_reducible refine (C1.out _ (by repeat (with_reducible first | assumption | exact Below.refl _ _ | refine Below.drew ?_ | refine kBa ?_ | refine kBb (by assumption) ?_))).mono ?_; rintro e v5 ⟨zp, kp, cp, qp, rfl, hv5, HP⟩; have TU : Ob2 v5 (w.heap.size + 1 + 1) := (by repeat (with_reducible first | exact ob | exact TU | exact TV | refine Ob2.drew ?_ | refine kO2b (by assumption) ?_)); obtain ⟨_, t0, t1, tf⟩ := id TU)
      | (go_at_call 98; with_reducible refine (C2.out _ zp kp cp HP.out.1).mono ?_; rintro e v6 ⟨rr, rfl, hv6, HR⟩; have TV : Ob2 v6 (w.heap.size + 1 + 1) := (by repeat (with_reducible first | exact ob | exact TU | exact TV | refine Ob2.drew ?_ | refine kO2b (by assumption) ?_)); obtain ⟨_, u0, u1, uf⟩ := id TV))
  have hb : Below w1.heap.size w1 v6 := (by repeat (with_reducible first | assumption | exact Below.refl _ _ | refine Below.drew ?_ | refine kBa ?_ | refine kBb (by assumption) ?_))
  have DP := HP.out.2.below hv6
  go_wp2
  refine bodyPost_ret (v := .agg #[.bool rr, .slice zp kp cp]) (by simp [results, Tryz.results136, go_sem, u0, u1]) rfl ⟨rr, zp, kp, cp, qp, rfl, below_st2 (HW.out.trans (hb.mono HW.out.size)) (by omega), by have := HP.out.1; omega, ?_⟩
  rw [zadd_same HS.out HA.out.sgn HB.out.sgn]
  exact Zn.of (TV.dn DP) HR.out

set_option maxRecDepth 100000 in
set_option maxHeartbeats 4000000 in
theorem zAdd_more {w : World} {sa : Bool} {xa : Option Addr} {na ca : Nat} {da : Nat → Int} {sb : Bool} {xb : Option Addr} {nb cb : Nat} {db : Nat → Int} {u v : Int} (ha : Zn w sa xa na da u) (hb : Zn w sb xb nb db v) (hn : na ≤ 4096) (hm : nb ≤ 4096) (hs : ¬ sa = sb) (hle : v.natAbs ≤ u.natAbs) :
    Calls Tryz.prog 136 #[.agg #[.bool sa, .slice xa na ca], .agg #[.bool sb, .slice xb nb cb]] w fun e w' => ZAns (na + nb + 1) w w' e (u + v) := by
  obtain ⟨ba, bb, ob, hw⟩ := zboxes (w := w) sa xa na ca sb xb nb cb 83
  have h1 := ((ha.alloc (.cells #[.bool sa, .slice xa na ca] 83)).alloc (.cells #[.bool sb, .slice xb nb cb] 83)).alloc (.cells #[.bool false, .slice none 0 0] 83)
  have h2 := ((hb.alloc (.cells #[.bool sa, .slice xa na ca] 83)).alloc (.cells #[.bool sb, .slice xb nb cb] 83)).alloc (.cells #[.bool false, .slice none 0 0] 83)
  clear ha hb
  have hse := beq_bool_false hs
  have HS := hid hs
  clear hs
  go_enter Tryz.func136, Tryz.ntmps136
  go_wp2_with fail
  generalize ((w.alloc (.cells #[.bool sa, .slice xa na ca] 83)).alloc (.cells #[.bool sb, .slice xb nb cb] 83)).alloc (.cells #[.bool false, .slice none 0 0] 83) = w1 at *
  have HA := hid h1; have HB := hid h2; have HW := hid hw
  obtain ⟨za, a0, a1⟩ := ba
  obtain ⟨zb, b0, b1⟩ := bb
  obtain ⟨hz, z0, z1, zf⟩ := id ob
  clear h1 h2 hw
  refine (rcmp_c xa xb na nb ca cb da db _ (by omega) (by omega) HA.out.dn.rd HB.out.dn.rd HA.out.dn.dg HB.out.dn.dg HA.out.dn.fm HB.out.dn.fm).mono ?_
  rintro e w2 ⟨⟨q, hq⟩, cc, rfl, hord⟩
  have hb := drewN_below hq
  clear hq
  rw [HA.out.dn.val, HB.out.dn.val] at hord
  have hsg : decide ((0 : Int) ≤ cc) = true := by
    rcases hord with ⟨h1, h2⟩ | ⟨h1, h2⟩ | ⟨h1, h2⟩ <;> subst h1 <;> first | rfl | (exfalso; omega)
  have HA2 := hid (HA.out.below hb); have HB2 := hid (HB.out.below hb); have HW2 := hid (HW.out.trans (hb.mono HW.out.size)); have ob2 := ob.below hb
  have a0' := kCb hb a0; have a1' := kCb hb a1; have b0' := kCb hb b0; have b1' := kCb hb b1
  clear hb hord a0 a1 b0 b1 hz z0 z1 zf za zb HW HA HB ob
  obtain ⟨hz, z0, z1, zf⟩ := id ob2
  have HA := hid HA2.out; have HB := hid HB2.out; have HW := hid HW2.out
  have C1 : Hid (∀ W, Below w2.heap.size w2 W → Calls Tryz.prog 116 #[.slice xa na ca, .slice xb nb cb] W fun e w' => ∃ z k c' q, e = .returned (.slice z k c') ∧ Below W.heap.size W w' ∧ Hid (k ≤ na ∧ Dn w' z k q (u.natAbs - v.natAbs))) := fun W hW => dSub_c (HA.out.dn.below hW) (HB.out.dn.below hW) (by omega) (by omega) hle
  have C2 : Hid (∀ (W : World) (z : Option Addr) (k c : Nat), k ≤ na → Calls Tryz.prog 98 #[.bool (sa), .slice z k c] W fun e w' => ∃ r, e = .returned (.agg #[.bool r, .slice z k c]) ∧ Below W.heap.size W w' ∧ Hid (r = ((sa) && decide (0 < k)))) := fun W z k c hk => mkZ_c (by omega)
  go_wp2_with fail
  go_region_held3 (fun w' => w'.cell? ⟨w.heap.size, 0, none⟩ = some (.bool sa) ∧ w'.cell? ⟨w.heap.size, 1, none⟩ = some (.slice xa na ca) ∧ w'.cell? ⟨w.heap.size + 1, 0, none⟩ = some (.bool sb) ∧ w'.cell? ⟨w.heap.size + 1, 1, none⟩ = some (.slice xb nb cb) ∧ (w'.cell? ⟨w.heap.size + 1 + 1, 0, none⟩).isSome = true ∧ (w'.cell? ⟨w.heap.size + 1 + 1, 1, none⟩).isSome = true ∧ w'.frozen? ⟨w.heap.size + 1 + 1, 0, none⟩ = false ∧ w'.frozen? ⟨w.heap.size + 1 + 1, 1, none⟩ = false)
    (refine ⟨?_, ?_, ?_, ?_, ?_, ?_, ?_, ?_⟩ <;> repeat (with_reducible first | assumption | exact zf _ | exact kI0 z0 | exact kI0 z1 | exact tf _ | exact kI0 t0 | exact kI0 t1 | exact uf _ | exact kI0 u0 | exact kI0 u1 | refine kCd ?_ | refine kId ?_ | refine kFd ?_ | refine kCs (by simp only [ne_eq]; omega) ?_ | refine kIs ?_ | refine kFs ?_ | refine kCb (by assumption) ?_ | refine kIb (by assumption) ?_))
    (first
      | (go_at_call 116; with_reducible refine (C1.out _ (by repeat (with_reducible first | assumption | exact Below.refl _ _ | refine Below.drew ?_ | refine kBa ?_ | refine kBb (by assumption) ?_))).mono ?_; rintro e v5 ⟨zp, kp, cp, qp, rfl, hv5, HP⟩; have TU : Ob2 v5 (w.heap.size + 1 + 1) := (by repeat (with_reducible first | exact ob2 | exact TU | exact TV | refine Ob2.drew ?_ | refine kO2b (by assumption) ?_)); obtain ⟨_, t0, t1, tf⟩ := id TU)
      | (go_at_call 98; with_reducible refine (C2.out _ zp kp cp HP.out.1).mono ?_; rintro e v6 ⟨rr, rfl, hv6, HR⟩; have TV : Ob2 v6 (w.heap.size + 1 + 1) := (by repeat (with_reducible first | exact ob2 | exact TU | exact TV | refine Ob2.drew ?_ | refine kO2b (by assumption) ?_)); obtain ⟨_, u0, u1, uf⟩ := id TV))
  have hb : Below w2.heap.size w2 v6 := (by repeat (with_reducible first | assumption | exact Below.refl _ _ | refine Below.drew ?_ | refine kBa ?_ | refine kBb (by assumption) ?_))
  have DP := HP.out.2.below hv6
  go_wp2
  refine bodyPost_ret (v := .agg #[.bool rr, .slice zp kp cp]) (by simp [results, Tryz.results136, go_sem, u0, u1]) rfl ⟨rr, zp, kp, cp, qp, rfl, below_st2 (HW.out.trans (hb.mono HW.out.size)) (by omega), by have := HP.out.1; omega, ?_⟩
  rw [zadd_more HS.out HA.out.sgn HB.out.sgn hle]
  exact Zn.of (TV.dn DP) HR.out

set_option maxRecDepth 100000 in
set_option maxHeartbeats 4000000 in
theorem zAdd_less {w : World} {sa : Bool} {xa : Option Addr} {na ca : Nat} {da : Nat → Int} {sb : Bool} {xb : Option Addr} {nb cb : Nat} {db : Nat → Int} {u v : Int} (ha : Zn w sa xa na da u) (hb : Zn w sb xb nb db v) (hn : na ≤ 4096) (hm : nb ≤ 4096) (hs : ¬ sa = sb) (hlt : u.natAbs < v.natAbs) :
    Calls Tryz.prog 136 #[.agg #[.bool sa, .slice xa na ca], .agg #[.bool sb, .slice xb nb cb]] w fun e w' => ZAns (na + nb + 1) w w' e (u + v) := by
  obtain ⟨ba, bb, ob, hw⟩ := zboxes (w := w) sa xa na ca sb xb nb cb 83
  have h1 := ((ha.alloc (.cells #[.bool sa, .slice xa na ca] 83)).alloc (.cells #[.bool sb, .slice xb nb cb] 83)).alloc (.cells #[.bool false, .slice none 0 0] 83)
  have h2 := ((hb.alloc (.cells #[.bool sa, .slice xa na ca] 83)).alloc (.cells #[.bool sb, .slice xb nb cb] 83)).alloc (.cells #[.bool false, .slice none 0 0] 83)
  clear ha hb
  have hse := beq_bool_false hs
  have HS := hid hs
  clear hs
  go_enter Tryz.func136, Tryz.ntmps136
  go_wp2_with fail
  generalize ((w.alloc (.cells #[.bool sa, .slice xa na ca] 83)).alloc (.cells #[.bool sb, .slice xb nb cb] 83)).alloc (.cells #[.bool false, .slice none 0 0] 83) = w1 at *
  have HA := hid h1; have HB := hid h2; have HW := hid hw
  obtain ⟨za, a0, a1⟩ := ba
  obtain ⟨zb, b0, b1⟩ := bb
  obtain ⟨hz, z0, z1, zf⟩ := id ob
  clear h1 h2 hw
  refine (rcmp_c xa xb na nb ca cb da db _ (by omega) (by omega) HA.out.dn.rd HB.out.dn.rd HA.out.dn.dg HB.out.dn.dg HA.out.dn.fm HB.out.dn.fm).mono ?_
  rintro e w2 ⟨⟨q, hq⟩, cc, rfl, hord⟩
  have hb := drewN_below hq
  clear hq
  rw [HA.out.dn.val, HB.out.dn.val] at hord
  have hsg : decide ((0 : Int) ≤ cc) = false := by
    rcases hord with ⟨h1, h2⟩ | ⟨h1, h2⟩ | ⟨h1, h2⟩ <;> subst h1 <;> first | rfl | (exfalso; omega)
  have HA2 := hid (HA.out.below hb); have HB2 := hid (HB.out.below hb); have HW2 := hid (HW.out.trans (hb.mono HW.out.size)); have ob2 := ob.below hb
  have a0' := kCb hb a0; have a1' := kCb hb a1; have b0' := kCb hb b0; have b1' := kCb hb b1
  clear hb hord a0 a1 b0 b1 hz z0 z1 zf za zb HW HA HB ob
  obtain ⟨hz, z0, z1, zf⟩ := id ob2
  have HA := hid HA2.out; have HB := hid HB2.out; have HW := hid HW2.out
  have C1 : Hid (∀ W, Below w2.heap.size w2 W → Calls Tryz.prog 116 #[.slice xb nb cb, .slice xa na ca] W fun e w' => ∃ z k c' q, e = .returned (.slice z k c') ∧ Below W.heap.size W w' ∧ Hid (k ≤ nb ∧ Dn w' z k q (v.natAbs - u.natAbs))) := fun W hW => dSub_c (HB.out.dn.below hW) (HA.out.dn.below hW) (by omega) (by omega) (by omega)
  have C2 : Hid (∀ (W : World) (z : Option Addr) (k c : Nat), k ≤ nb → Calls Tryz.prog 98 #[.bool (sb), .slice z k c] W fun e w' => ∃ r, e = .returned (.agg #[.bool r, .slice z k c]) ∧ Below W.heap.size W w' ∧ Hid (r = ((sb) && decide (0 < k)))) := fun W z k c hk => mkZ_c (by omega)
  go_wp2_with fail
  go_region_held3 (fun w' => w'.cell? ⟨w.heap.size, 0, none⟩ = some (.bool sa) ∧ w'.cell? ⟨w.heap.size, 1, none⟩ = some (.slice xa na ca) ∧ w'.cell? ⟨w.heap.size + 1, 0, none⟩ = some (.bool sb) ∧ w'.cell? ⟨w.heap.size + 1, 1, none⟩ = some (.slice xb nb cb) ∧ (w'.cell? ⟨w.heap.size + 1 + 1, 0, none⟩).isSome = true ∧ (w'.cell? ⟨w.heap.size + 1 + 1, 1, none⟩).isSome = true ∧ w'.frozen? ⟨w.heap.size + 1 + 1, 0, none⟩ = false ∧ w'.frozen? ⟨w.heap.size + 1 + 1, 1, none⟩ = false)
    (refine ⟨?_, ?_, ?_, ?_, ?_, ?_, ?_, ?_⟩ <;> repeat (with_reducible first | assumption | exact zf _ | exact kI0 z0 | exact kI0 z1 | exact tf _ | exact kI0 t0 | exact kI0 t1 | exact uf _ | exact kI0 u0 | exact kI0 u1 | refine kCd ?_ | refine kId ?_ | refine kFd ?_ | refine kCs (by simp only [ne_eq]; omega) ?_ | refine kIs ?_ | refine kFs ?_ | refine kCb (by assumption) ?_ | refine kIb (by assumption) ?_))
    (first
      | (go_at_call 116; with_reducible refine (C1.out _ (by repeat (with_reducible first | assumption | exact Below.refl _ _ | refine Below.drew ?_ | refine kBa ?_ | refine kBb (by assumption) ?_))).mono ?_; rintro e v5 ⟨zp, kp, cp, qp, rfl, hv5, HP⟩; have TU : Ob2 v5 (w.heap.size + 1 + 1) := (by repeat (with_reducible first | exact ob2 | exact TU | exact TV | refine Ob2.drew ?_ | refine kO2b (by assumption) ?_)); obtain ⟨_, t0, t1, tf⟩ := id TU)
      | (go_at_call 98; with_reducible refine (C2.out _ zp kp cp HP.out.1).mono ?_; rintro e v6 ⟨rr, rfl, hv6, HR⟩; have TV : Ob2 v6 (w.heap.size + 1 + 1) := (by repeat (with_reducible first | exact ob2 | exact TU | exact TV | refine Ob2.drew ?_ | refine kO2b (by assumption) ?_)); obtain ⟨_, u0, u1, uf⟩ := id TV))
  have hb : Below w2.heap.size w2 v6 := (by repeat (with_reducible first | assumption | exact Below.refl _ _ | refine Below.drew ?_ | refine kBa ?_ | refine kBb (by assumption) ?_))
  have DP := HP.out.2.below hv6
  go_wp2
  refine bodyPost_ret (v := .agg #[.bool rr, .slice zp kp cp]) (by simp [results, Tryz.results136, go_sem, u0, u1]) rfl ⟨rr, zp, kp, cp, qp, rfl, below_st2 (HW.out.trans (hb.mono HW.out.size)) (by omega), by have := HP.out.1; omega, ?_⟩
  rw [zadd_less HS.out HA.out.sgn HB.out.sgn (by omega)]
  exact Zn.of (TV.dn DP) HR.out

theorem zAdd_c {w : World} {sa : Bool} {xa : Option Addr} {na ca : Nat} {da : Nat → Int} {sb : Bool} {xb : Option Addr} {nb cb : Nat} {db : Nat → Int} {u v : Int} (ha : Zn w sa xa na da u) (hb : Zn w sb xb nb db v) (hn : na ≤ 4096) (hm : nb ≤ 4096) :
    Calls Tryz.prog 136 #[.agg #[.bool sa, .slice xa na ca], .agg #[.bool sb, .slice xb nb cb]] w fun e w' => ZAns (na + nb + 1) w w' e (u + v) := by
  by_cases hs : sa = sb
  · exact zAdd_same ha hb hn hm hs
  · by_cases hle : v.natAbs ≤ u.natAbs
    · exact zAdd_more ha hb hn hm hs hle
    · exact zAdd_less ha hb hn hm hs (by omega)
theorem zNeg_c {w : World} {sa : Bool} {xa : Option Addr} {na ca : Nat} {da : Nat → Int} {u : Int} (ha : Zn w sa xa na da u) (hn : na ≤ 4096) :
    Calls Tryz.prog 139 #[.agg #[.bool sa, .slice xa na ca]] w fun e w' => ∃ s c, e = .returned (.agg #[.bool s, .slice xa na c]) ∧ Below w.heap.size w w' ∧ Hid (Zn w' s xa na da (-u)) := by
  have HA := hid ha
  clear ha
  go_enter Tryz.func139, Tryz.ntmps139
  go_wp2_with fail
  refine (zMk_c _ xa na ca _ (by omega)).mono ?_
  rintro e w1 ⟨r, rfl, HR, hbel⟩
  have hob := (ob2_new (w.alloc _) _).below hbel
  rw [size_alloc1] at hob
  have HW1 : Hid (Below w.heap.size w w1) := (below_alloc (below_alloc (Below.refl w.heap.size w) _) _).trans (hbel.mono (by simp; omega))
  have OB1 := hid hob
  clear hbel hob
  obtain ⟨hz, z0, z1, zf⟩ := OB1.out
  go_wp2
  refine bodyPost_ret (v := .agg #[.bool r, .slice xa na ca]) (by simp [results, Tryz.results139, go_sem, z0, z1]) rfl ⟨r, ca, rfl, below_st2 HW1.out (by omega), ?_⟩
  have hm := HA.out.sgn
  have e : -u = sg (!sa) u.natAbs := by
    generalize u.natAbs = A at hm
    rw [hm]
    cases sa
    · rfl
    · show - -(A : Int) = A; omega
  show Zn _ _ _ _ _ (-u)
  rw [e]
  exact Zn.of (OB1.out.dn (HA.out.dn.below HW1.out)) HR.out
end Go.Proofs.YtbmdhfpgkemilaaGreatDoor
namespace Go.Proofs.YtbmdhfpgkemilaaGreatDoor
open Go.RowKit

theorem zFromZ_c {w s x n c f v} (h : Wn w s x n c f v) (hn : n ≤ 4096) :
    Calls Tryz.prog 64 #[.agg #[.bool s, .slice x n c]] w fun e w' => ∃ t z m c' d, e = .returned (.agg #[.bool t, .slice z m c']) ∧ Below w.heap.size w w' ∧ Hid (m ≤ 2 * n ∧ Zn w' t z m d v) := by
  refine (zFrom_c s x n c f w (by omega) h.rd h.lm h.wf).mono ?_
  rintro e w' ⟨t, z, m, c', d, rfl, h1, rfl, h2⟩
  have hv := h.mag.nv
  refine ⟨t, z, m, c', d, rfl, h1.bel, h1.le, ⟨h1.rd, h1.dg, h1.fm, ?_⟩, h.sgn, h1.sgn⟩
  rw [h2]; exact hv
theorem zToW_c {w s x n c d v} (h : Zn w s x n d v) (hn : n ≤ 100000) :
    Calls Tryz.prog 65 #[.agg #[.bool s, .slice x n c]] w fun e w' => ∃ r z k c' f, e = .returned (.agg #[.bool r, .slice z k c']) ∧ Below w.heap.size w w' ∧ Hid (k ≤ n ∧ Wn w' r z k c' f v) := by
  refine (zTo_c s x n c d v w (by omega) h.dn.rd h.dn.dg h.dn.fm h.pos ?_).mono ?_
  · rw [h.dn.val]
    have := h.sgn
    cases s
    · have e : v = v.natAbs := this
      show (v.natAbs : Int) = v; omega
    · have e : v = -(v.natAbs : Int) := this
      show -(v.natAbs : Int) = v; omega
  · rintro e w' ⟨r, z, k, c', f, rfl, h1, h2⟩
    exact ⟨r, z, k, c', f, rfl, h1.res.bel, h1.res.le, h1.wn h2⟩

set_option maxRecDepth 100000 in
set_option maxHeartbeats 4000000 in
theorem zSub_c {w : World} {sa : Bool} {xa : Option Addr} {na ca : Nat} {da : Nat → Int} {sb : Bool} {xb : Option Addr} {nb cb : Nat} {db : Nat → Int} {u v : Int} (ha : Zn w sa xa na da u) (hb : Zn w sb xb nb db v) (hn : na ≤ 4096) (hm : nb ≤ 4096) :
    Calls Tryz.prog 126 #[.agg #[.bool sa, .slice xa na ca], .agg #[.bool sb, .slice xb nb cb]] w fun e w' => ZAns (na + nb + 1) w w' e (u - v) := by
  obtain ⟨ba, bb, ob, hw⟩ := zboxes (w := w) sa xa na ca sb xb nb cb 83
  have h1 := ((ha.alloc (.cells #[.bool sa, .slice xa na ca] 83)).alloc (.cells #[.bool sb, .slice xb nb cb] 83)).alloc (.cells #[.bool false, .slice none 0 0] 83)
  have h2 := ((hb.alloc (.cells #[.bool sa, .slice xa na ca] 83)).alloc (.cells #[.bool sb, .slice xb nb cb] 83)).alloc (.cells #[.bool false, .slice none 0 0] 83)
  clear ha hb
  go_enter Tryz.func126, Tryz.ntmps126
  go_wp2_with fail
  generalize ((w.alloc (.cells #[.bool sa, .slice xa na ca] 83)).alloc (.cells #[.bool sb, .slice xb nb cb] 83)).alloc (.cells #[.bool false, .slice none 0 0] 83) = w1 at *
  have HA := hid h1; have HB := hid h2; have HW := hid hw
  obtain ⟨za, a0, a1⟩ := ba
  obtain ⟨zb, b0, b1⟩ := bb
  obtain ⟨hz, z0, z1, zf⟩ := id ob
  clear h1 h2 hw
  have C1 : Hid (∀ W, Below w1.heap.size w1 W → Calls Tryz.prog 139 #[.agg #[.bool sb, .slice xb nb cb]] W fun e w' => ∃ s c, e = .returned (.agg #[.bool s, .slice xb nb c]) ∧ Below W.heap.size W w' ∧ Hid (Zn w' s xb nb db (-v))) := fun W hW => zNeg_c (HB.out.below hW) hm
  have C2 : Hid (∀ (W : World) (s : Bool) (c : Nat), Below w1.heap.size w1 W → Zn W s xb nb db (-v) → Calls Tryz.prog 136 #[.agg #[.bool sa, .slice xa na ca], .agg #[.bool s, .slice xb nb c]] W fun e w' => ∃ s x n c d, e = .returned (.agg #[.bool s, .slice x n c]) ∧ Below W.heap.size W w' ∧ Hid (n ≤ na + nb + 1 ∧ Zn w' s x n d (u - v))) := fun W s c hW h2 => (zAdd_c (HA.out.below hW) h2 hn hm).mono (fun e w' ⟨s, x, n, c, d, h1, h2, h3, h4⟩ => ⟨s, x, n, c, d, h1, h2, h3, by rw [← Int.sub_eq_add_neg] at h4; exact h4⟩)
  go_wp2_with fail
  go_region_held3 (fun w' => w'.cell? ⟨w.heap.size, 0, none⟩ = some (.bool sa) ∧ w'.cell? ⟨w.heap.size, 1, none⟩ = some (.slice xa na ca) ∧ w'.cell? ⟨w.heap.size + 1, 0, none⟩ = some (.bool sb) ∧ w'.cell? ⟨w.heap.size + 1, 1, none⟩ = some (.slice xb nb cb) ∧ (w'.cell? ⟨w.heap.size + 1 + 1, 0, none⟩).isSome = true ∧ (w'.cell? ⟨w.heap.size + 1 + 1, 1, none⟩).isSome = true ∧ w'.frozen? ⟨w.heap.size + 1 + 1, 0, none⟩ = false ∧ w'.frozen? ⟨w.heap.size + 1 + 1, 1, none⟩ = false)
    (refine ⟨?_, ?_, ?_, ?_, ?_, ?_, ?_, ?_⟩ <;> repeat (with_reducible first | assumption | exact zf _ | exact kI0 z0 | exact kI0 z1 | exact tf _ | exact kI0 t0 | exact kI0 t1 | exact uf _ | exact kI0 u0 | exact kI0 u1 | refine kCd ?_ | refine kId ?_ | refine kFd ?_ | refine kCs (by simp only [ne_eq]; omega) ?_ | refine kIs ?_ | refine kFs ?_ | refine kCb (by assumption) ?_ | refine kIb (by assumption) ?_))
    (first
      | (go_at_call 139; with_reducible refine (C1.out _ (by repeat (with_reducible first | assumption | exact Below.refl _ _ | refine Below.drew ?_ | refine kBa ?_ | refine kBb (by assumption) ?_))).mono ?_; rintro e v5 ⟨sp, cp, rfl, hv5, HP⟩; have TU : Ob2 v5 (w.heap.size + 1 + 1) := (by repeat (with_reducible first | exact ob | exact TU | exact TV | refine Ob2.drew ?_ | refine kO2b (by assumption) ?_)); obtain ⟨_, t0, t1, tf⟩ := id TU)
      | (go_at_call 136; with_reducible refine (C2.out _ sp cp (by repeat (with_reducible first | assumption | exact Below.refl _ _ | refine Below.drew ?_ | refine kBa ?_ | refine kBb (by assumption) ?_)) HP.out).mono ?_; rintro e v6 ⟨sq, xq, nq, cq, dq, rfl, hv6, HQ⟩; have TV : Ob2 v6 (w.heap.size + 1 + 1) := (by repeat (with_reducible first | exact ob | exact TU | exact TV | refine Ob2.drew ?_ | refine kO2b (by assumption) ?_)); obtain ⟨_, u0, u1, uf⟩ := id TV))
  have hb : Below w1.heap.size w1 v6 := (by repeat (with_reducible first | assumption | exact Below.refl _ _ | refine Below.drew ?_ | refine kBa ?_ | refine kBb (by assumption) ?_))
  go_wp2
  exact bodyPost_ret (v := .agg #[.bool sq, .slice xq nq cq]) (by simp [results, Tryz.results126, go_sem, u0, u1]) rfl ⟨sq, xq, nq, cq, dq, rfl, below_st2 (HW.out.trans (hb.mono HW.out.size)) (by omega), HQ.out.1, TV.dn HQ.out.2.dn, HQ.out.2.sgn, HQ.out.2.pos⟩
theorem zSign_c {w : World} {sa : Bool} {xa : Option Addr} {na ca : Nat} {da : Nat → Int} {u : Int} (ha : Zn w sa xa na da u) (hn : na ≤ 100000) :
    Calls Tryz.prog 137 #[.agg #[.bool sa, .slice xa na ca]] w fun e w' => ∃ c, e = .returned (.int .i64 c) ∧ Below w.heap.size w w' ∧ Ord c u 0 := by
  have hbe := below_alloc (Below.refl w.heap.size w) (.cells #[.bool sa, .slice xa na ca] 83)
  have hsg := ha.sgn
  rcases Nat.eq_zero_or_pos na with h0 | h0
  · subst h0
    have hz := ha.dn.zero
    have hu : u = 0 := by omega
    subst hu
    clear ha hsg hz
    go_enter Tryz.func137, Tryz.ntmps137
    go_wp2
    go_ret
    exact ⟨0, rfl, hbe, .inr (.inl ⟨rfl, rfl⟩)⟩
  · have hp := ha.dn.pos' h0
    have hn0 : ((na : Int) == 0) = false := by simp; omega
    cases sa
    · have e : u = u.natAbs := hsg
      have hu : 0 < u := by omega
      clear ha hsg e
      go_enter Tryz.func137, Tryz.ntmps137
      go_wp2
      go_ret
      exact ⟨1, rfl, hbe, .inr (.inr ⟨rfl, hu⟩)⟩
    · have e : u = -(u.natAbs : Int) := hsg
      have hu : u < 0 := by omega
      clear ha hsg e
      go_enter Tryz.func137, Tryz.ntmps137
      go_wp2
      go_ret
      exact ⟨-1, rfl, hbe, .inl ⟨rfl, hu⟩⟩
/-- The error of two numbers. -/
def e2 (s : Bool) (f : Nat → Int) (n : Nat) (t : Bool) (h : Nat → Int) (m : Nat) : Int := if wfB s f n && wfB t h m then 0 else 3
set_option maxHeartbeats 1000000 in
theorem rtwo_c (s t : Bool) (x y : Option Addr) (n m c d : Nat) (f h : Nat → Int) (w : World) (hr : Rd .u64 w x n f) (hs : Rd .u64 w y m h) (hn : n ≤ 4096) (hm : m ≤ 4096) :
    Calls Tryz.prog 62 #[.agg #[.bool s, .slice x n c], .agg #[.bool t, .slice y m d]] w fun e w' => e = .returned (.int .i64 (e2 s f n t h m)) ∧ Below w.heap.size w w' := by
  have HR := hid hr; have HS := hid hs
  clear hr hs
  go_enter Tryz.func62, Tryz.ntmps62
  go_wp2_with fail
  refine (rwForm_c s x n c f _ (by omega) ((HR.out.alloc _).alloc _)).mono ?_
  rintro e w1 ⟨rfl, hb⟩
  obtain ⟨⟨hz, x0, x1, y0, y1⟩, _, hw⟩ := boxes2' hb
  have HW1 := hid hw
  clear hb hw
  cases h1 : wfB s f n
  · have E : Hid (e2 s f n t h m = 3) := hid (by simp [e2, h1])
    go_wp2
    go_ret
    exact ⟨by rw [E.out]; rfl, HW1.out⟩
  · have F1 := hid h1
    clear h1
    go_wp2_with fail
    refine (rwForm_c t y m d h _ (by omega) (HS.out.below HW1.out (Nat.le_refl _))).mono ?_
    rintro e w2 ⟨rfl, hb⟩
    have HW2 := hid (HW1.out.trans (hb.mono HW1.out.size))
    clear hb
    cases h2 : wfB t h m
    · have E : Hid (e2 s f n t h m = 3) := hid (by simp [e2, h2])
      go_wp2
      go_ret
      exact ⟨by rw [E.out]; rfl, HW2.out⟩
    · have E : Hid (e2 s f n t h m = 0) := hid (by simp [e2, h2, F1.out])
      go_wp2
      go_ret
      exact ⟨by rw [E.out]; rfl, HW2.out⟩
end Go.Proofs.YtbmdhfpgkemilaaGreatDoor
namespace Go.Proofs.YtbmdhfpgkemilaaGreatDoor
open Go.RowKit

/-- What a call answers: a number, or an error. -/
def WGot (L : Nat) (w w' : World) (e : Ending) (p : Bool) (v : Int) : Prop := ∃ r z k c f, e = .returned (.tuple #[.agg #[.bool r, .slice z k c], .int .i64 (if p then 0 else 3)]) ∧ Below w.heap.size w w' ∧ k ≤ L ∧ Wn w' r z k c f (if p then v else 0)
/-- What Cmp answers: an order, or an error. -/
def CmpGot (w w' : World) (e : Ending) (p : Bool) (u v : Int) : Prop := ∃ c, e = .returned (.tuple #[.int .i64 c, .int .i64 (if p then 0 else 3)]) ∧ Below w.heap.size w w' ∧ (if p then Ord c u v else c = 0)
def kv (kind : Nat) (u v : Int) : Int := if kind = 0 then u + v else if kind = 1 then u - v else u * v
theorem wn_none (w : World) (v : Int) : Wn w false none 0 0 (fun _ => 0) (if false = true then v else 0) := ⟨Rd.zero, fun j hj => by omega, by decide, by omega, fun _ => ⟨rfl, rfl⟩, rfl⟩
theorem kBs' {w0 w : World} {p : Addr} {v : Value} (hB : w0.heap.size ≤ p.block) (h : Below w0.heap.size w0 w) : Below w0.heap.size w0 (w.setCell p v) :=
  below_turned h h.size ((Turned.refl w0.heap.size (p.block + 1) w).set hB (Nat.lt_succ_self _) v) (Nat.le_refl _)
theorem kZd {w s x n d v} (h : Zn w s x n d v) : Zn w.drew s x n d v := ⟨h.dn.drew, h.sgn, h.pos⟩
theorem kZa {w s x n d v} {o : Obj} (h : Zn w s x n d v) : Zn (w.alloc o) s x n d v := h.alloc o
theorem kZb {w w' s x n d v} (hb : Below w.heap.size w w') (h : Zn w s x n d v) : Zn w' s x n d v := h.below hb
theorem ob2_at {w : World} {t : TypeId} {B : Nat} (h : B = w.heap.size) : Ob2 (w.alloc (.cells #[.bool false, .slice none 0 0] t)) B := by subst h; exact ob2_new w t
theorem kO2a {w : World} {B : Nat} {o : Obj} (h : Ob2 w B) : Ob2 (w.alloc o) B := h.alloc o
theorem kO2s {w : World} {B : Nat} {p : Addr} {v : Value} (hp : p.block ≠ B) (h : Ob2 w B) : Ob2 (w.setCell p v) B := ⟨by simpa [World.setCell] using h.z, kCs hp h.z0, kCs hp h.z1, fun o => kFs (h.zf o)⟩
theorem kZo {w B u0 u1 s x n d v} (h : Ob2 w B) (hx : Zn w s x n d v) : Zn ((w.setCell ⟨B, 0, none⟩ u0).setCell ⟨B, 1, none⟩ u1) s x n d v := ⟨h.dn hx.dn, hx.sgn, hx.pos⟩
theorem kZ0 {w : World} {b : Nat} {u : Value} {s x n d v} (hp : w.cell? ⟨b, 0, none⟩ = some (.bool false)) (h : Zn w s x n d v) : Zn (w.setCell ⟨b, 0, none⟩ u) s x n d v := ⟨⟨rd_setne hp (fun i h => by cases h) h.dn.rd, h.dn.dg, h.dn.fm, h.dn.val⟩, h.sgn, h.pos⟩
theorem kZ1 {w : World} {b : Nat} {u : Value} {s x n d v} (hp : w.cell? ⟨b, 1, none⟩ = some (.slice none 0 0)) (h : Zn w s x n d v) : Zn (w.setCell ⟨b, 1, none⟩ u) s x n d v := ⟨⟨rd_setne hp (fun i h => by cases h) h.dn.rd, h.dn.dg, h.dn.fm, h.dn.val⟩, h.sgn, h.pos⟩

end Go.Proofs.YtbmdhfpgkemilaaGreatDoor
namespace Go.Proofs.YtbmdhfpgkemilaaGreatDoor
open Go.RowKit

theorem drewN_bel {w w' : World} {q : Nat} (h : w' = w.drewN q) : Below w.heap.size w w' := by rw [h]; exact below_drewN (Below.refl _ _) _
/-- One digit otherwise. -/
theorem vd_upd {Q : Nat → Int} {p N : Nat} {t : Int} (hp : p < N) : vd (upd Q p t) N = vd Q N + (t - Q p) * pd p := by
  obtain ⟨d, rfl⟩ : ∃ d, N = p + 1 + d := ⟨N - (p + 1), by omega⟩
  have e1 : vd (upd Q p t) p = vd Q p := vd_congr (fun j hj => upd_other _ _ _ _ (by omega))
  have e2 : vd (sh (upd Q p t) (p + 1)) d = vd (sh Q (p + 1)) d := vd_congr (fun j hj => upd_other _ _ _ _ (by omega))
  rw [vd_split (upd Q p t) (p + 1) d, vd_split Q (p + 1) d, vd_succ, vd_succ, e1, e2, upd_same]
  grind
theorem p2_pos (s : Nat) : (0 : Int) < 2 ^ s := Int.pow_pos (by decide)
theorem p2_32 {s : Nat} (h : s ≤ 32) : (2 : Int) ^ s * 2 ^ (32 - s) = 4294967296 := by rw [← Int.pow_add, show s + (32 - s) = 32 by omega]; rfl
theorem p2_le {s : Nat} (h : s ≤ 31) : (2 : Int) ^ s ≤ 2147483648 := by
  have : (2 : Int) ^ s * 2 ^ (31 - s) = 2147483648 := by rw [← Int.pow_add, show s + (31 - s) = 31 by omega]; rfl
  have q0 : (0 : Int) < 2 ^ (31 - s) := p2_pos _
  have := Int.mul_le_mul_of_nonneg_left (show (1 : Int) ≤ 2 ^ (31 - s) by omega) (Int.le_of_lt (p2_pos s))
  omega
theorem p2_succ (s : Nat) : (2 : Int) ^ (s + 1) = 2 * 2 ^ s := by rw [Int.pow_succ, Int.mul_comm]
/-- What is less than one and not below none, is none. -/
theorem none_of_lt {D p : Int} (h0 : 0 ≤ D * p) (h1 : D * p < p) (hp : 0 < p) : D = 0 := by
  rcases Int.lt_trichotomy D 0 with h | h | h
  · have := Int.mul_le_mul_of_nonneg_right (show D ≤ -1 by omega) (Int.le_of_lt hp); omega
  · exact h
  · have := Int.mul_le_mul_of_nonneg_right (show 1 ≤ D by omega) (Int.le_of_lt hp); omega
/-- There is room for the bit. -/
theorem bit_room {Q : Nat → Int} {n j s : Nat} {V : Int} (h : Dg Q n) (hj : j < n) (hs : s ≤ 31) (hv : vd Q n = V * (2 ^ (s + 1) * pd j)) : Q j + 2 ^ s < 4294967296 := by
  obtain ⟨d, rfl⟩ : ∃ d, n = j + 1 + d := ⟨n - (j + 1), by omega⟩
  have a0 := vd_nonneg (h.mono (m := j) (by omega))
  have a1 := vd_lt (h.mono (m := j) (by omega))
  have hp := pd_pos j
  obtain ⟨q0, q1⟩ := h j (by omega)
  rw [vd_split, vd_succ, pd_succ] at hv
  generalize vd (sh Q (j + 1)) d = T at hv
  have e : vd Q j = (V * 2 ^ (s + 1) - Q j - T * 4294967296) * pd j := by grind
  have z := none_of_lt (D := V * 2 ^ (s + 1) - Q j - T * 4294967296) (p := pd j) (by omega) (by omega) hp
  have m := p2_32 (s := s + 1) (by omega)
  have e3 : Q j = 2 ^ (s + 1) * (V - T * 2 ^ (32 - (s + 1))) := by grind
  have g0 := p2_pos (s + 1)
  have g1 := p2_succ s
  generalize (V - T * 2 ^ (32 - (s + 1))) = E at e3
  have : E < 2 ^ (32 - (s + 1)) := by
    apply Int.lt_of_not_ge; intro hge
    have := Int.mul_le_mul_of_nonneg_left hge (Int.le_of_lt g0)
    omega
  have := Int.mul_le_mul_of_nonneg_left (show E ≤ 2 ^ (32 - (s + 1)) - 1 by omega) (Int.le_of_lt g0)
  rw [Int.mul_sub, Int.mul_one, m] at this
  have := p2_pos s
  omega
/-- The bit of a digit is the number's. -/
theorem bit_num {f : Nat → Int} {n j s : Nat} (h : Dg f n) (hj : j < n) (hs : s ≤ 31) : f j / 2 ^ s % 2 = vd f n / 2 ^ (32 * j + s) % 2 := by
  obtain ⟨d, rfl⟩ : ∃ d, n = j + 1 + d := ⟨n - (j + 1), by omega⟩
  have a0 := vd_nonneg (h.mono (m := j) (by omega))
  have a1 := vd_lt (h.mono (m := j) (by omega))
  have hp := pd_pos j
  rw [vd_split, vd_succ, pd_succ, Int.pow_add, ← pd_pow]
  generalize vd (sh f (j + 1)) d = T
  have e : vd f j + f j * pd j + T * (4294967296 * pd j) = vd f j + (f j + T * 4294967296) * pd j := by grind
  rw [e, ← Int.ediv_ediv_of_nonneg (Int.le_of_lt hp), Int.add_mul_ediv_right _ _ (by omega), Int.ediv_eq_zero_of_lt a0 a1, Int.zero_add]
  have m := p2_32 (s := s) (by omega)
  have e2 : f j + T * 4294967296 = f j + (T * 2 ^ (32 - s)) * 2 ^ s := by rw [← m]; grind
  have g := p2_pos s
  rw [e2, Int.add_mul_ediv_right _ _ (by omega)]
  have e3 : (2 : Int) ^ (32 - s) = 2 * 2 ^ (31 - s) := by rw [show 32 - s = (31 - s) + 1 by omega, p2_succ]
  rw [e3]
  generalize f j / 2 ^ s = u
  have e4 : T * (2 * 2 ^ (31 - s)) = 2 * (T * 2 ^ (31 - s)) := by grind
  rw [e4]; omega
/-- One bit more. -/
theorem bit_step {A M : Int} {k : Nat} (h : A / 2 ^ (k + 1) = M) : A / 2 ^ k = 2 * M + A / 2 ^ k % 2 := by
  have : A / 2 ^ (k + 1) = A / 2 ^ k / 2 := by rw [Int.pow_succ, Int.ediv_ediv_of_nonneg (Int.le_of_lt (p2_pos k))]
  omega
/-- The highest digit's bits are the number's. -/
theorem bits_top {f : Nat → Int} {n c : Nat} (h : Dg f (n + 1)) (hc : f n < 2 ^ c) : vd f (n + 1) < 2 ^ (32 * n + c) := by
  have a1 := vd_lt (h.mono (m := n) (by omega))
  have hp := pd_pos n
  rw [vd_succ, Int.pow_add, ← pd_pow]
  have := Int.mul_le_mul_of_nonneg_right (show f n + 1 ≤ 2 ^ c by omega) (Int.le_of_lt hp)
  rw [Int.add_mul, Int.one_mul] at this
  rw [Int.mul_comm (pd n)]
  omega
theorem bits_half {x t : Int} {c : Nat} (h1 : x * 2 ^ c ≤ t) (h2 : t < (x + 1) * 2 ^ c) : x / 2 * 2 ^ (c + 1) ≤ t ∧ t < (x / 2 + 1) * 2 ^ (c + 1) := by
  have g := p2_pos c
  rw [p2_succ]
  have k1 := Int.mul_le_mul_of_nonneg_right (show 2 * (x / 2) ≤ x by omega) (Int.le_of_lt g)
  have k2 := Int.mul_le_mul_of_nonneg_right (show x + 1 ≤ 2 * (x / 2) + 2 by omega) (Int.le_of_lt g)
  generalize (2 : Int) ^ c = P at *
  generalize x / 2 = y at *
  constructor
  · have : y * (2 * P) = 2 * y * P := by grind
    omega
  · have : (y + 1) * (2 * P) = (2 * y + 2) * P := by grind
    omega
theorem bits_few {x t : Int} {c : Nat} (h1 : x * 2 ^ c ≤ t) (hx : 0 < x) (ht : t < 4294967296) : c < 32 := by
  apply Nat.lt_of_not_le; intro h
  obtain ⟨d, rfl⟩ := Nat.exists_eq_add_of_le h
  have g := p2_pos d
  have g2 := p2_pos (32 + d)
  have k1 := Int.mul_le_mul_of_nonneg_right (show 1 ≤ x by omega) (Int.le_of_lt g2)
  have : (2 : Int) ^ (32 + d) = 4294967296 * 2 ^ d := by rw [Int.pow_add]; rfl
  have k2 := Int.mul_le_mul_of_nonneg_left (show (1 : Int) ≤ 2 ^ d by omega) (show (0 : Int) ≤ 4294967296 by decide)
  omega

set_option maxRecDepth 100000 in
set_option maxHeartbeats 1000000 in
theorem rbit_c (ao : Option Addr) (n cap : Nat) (f : Nat → Int) (i : Nat) (w : World) (hn : n ≤ 1048576) (hr : Rd .u64 w ao n f) (hf : Dg f n) (hi : i < 32 * n) :
    Calls Tryz.prog 114 #[.slice ao n cap, .int .i64 i] w fun e w' => e = .returned (.int .u64 (vd f n / 2 ^ i % 2)) ∧ w' = w := by
  obtain ⟨j, s, rfl, hs⟩ : ∃ j s, i = 32 * j + s ∧ s ≤ 31 := ⟨i / 32, i % 32, by omega, by omega⟩
  have hj : j < n := by omega
  rw [← bit_num hf hj hs]
  obtain ⟨b, o, rfl⟩ := hr.at (by omega)
  obtain ⟨x, hx⟩ : ∃ x, f j = x := ⟨_, rfl⟩
  have hcell := hr.cell hj
  obtain ⟨x0, x1⟩ := hf j hj
  rw [hx] at hcell x0 x1 ⊢
  obtain ⟨z, hz⟩ : ∃ z : Int, ((32 * j + s : Nat) : Int) = z := ⟨_, rfl⟩
  rw [hz]
  have z0 : 0 ≤ z := by omega
  have z1 : z ≤ 67108927 := by omega
  have h3 : Int.tdiv z 32 = (j : Int) := by rw [Int.tdiv_eq_ediv_of_nonneg z0]; omega
  have h4 : Int.tmod z 32 = (s : Int) := by rw [Int.tmod_eq_emod_of_nonneg z0]; omega
  have d0 : 0 ≤ x / 2 ^ s := Int.ediv_nonneg x0 (Int.le_of_lt (p2_pos s))
  have d1 : x / 2 ^ s < 4294967296 := Int.lt_of_le_of_lt (Int.ediv_le_self _ x0) x1
  have HX := hid hx
  clear hx hz hr hf hi
  go_enter Tryz.func114, Tryz.ntmps114
  go_wp2
  go_ret
  exact ⟨rfl, rfl⟩

set_option maxRecDepth 100000 in
set_option maxHeartbeats 1000000 in
theorem rbits_c (ao : Option Addr) (n cap : Nat) (f : Nat → Int) (w : World) (hn : n ≤ 1048576) (hr : Rd .u64 w ao n f) (hf : Dg f n) :
    Calls Tryz.prog 111 #[.slice ao n cap] w fun e w' => ∃ B : Nat, e = .returned (.int .i64 B) ∧ (∃ q, w' = w.drewN q) ∧ Hid (B ≤ 32 * n ∧ vd f n < 2 ^ B) := by
  cases n with
  | zero =>
    go_enter Tryz.func111, Tryz.ntmps111
    go_wp2
    go_ret
    exact ⟨0, rfl, ⟨0, rfl⟩, by omega, by simp [vd]⟩
  | succ n =>
    obtain ⟨b, o, rfl⟩ := hr.at (by omega)
    obtain ⟨t, ht⟩ : ∃ t, f n = t := ⟨_, rfl⟩
    have hcell := hr.cell (j := n) (by omega)
    obtain ⟨t0, t1⟩ := hf n (by omega)
    rw [ht] at hcell t0 t1
    have HT := hid ht; have HF := hid hf
    clear ht hr hf
    go_enter Tryz.func111, Tryz.ntmps111
    go_wp2
    go_loopw [3, 4] (fun u v wr => ∃ (c : Nat) (x : Int), c ≤ 32 ∧ u = .int .i64 ((32 * n + c : Nat) : Int) ∧ v = .int .u64 x ∧ 0 ≤ x ∧ x < 4294967296 ∧ Hid (x * 2 ^ c ≤ t ∧ t < (x + 1) * 2 ^ c) ∧ ∃ q, wr = w.drewN q) (fun _ v _ => (intOf v).toNat)
    case atStart => exact ⟨0, t, by omega, by go_num, rfl, t0, t1, ⟨by rw [Int.pow_zero, Int.mul_one]; exact Int.le_refl _, by rw [Int.pow_zero, Int.mul_one]; omega⟩, 0, rfl⟩
    case round =>
      obtain ⟨c, x, hc, rfl, rfl, x0, x1, HX, q, rfl⟩ := hrel
      by_cases hx : 0 < x
      · have hfew := bits_few HX.out.1 hx t1
        have hh := bits_half HX.out.1 HX.out.2
        have HH := hid hh
        clear hh
        go_wp2
        go_roundw
        case rel => exact ⟨c + 1, x / 2, by omega, by go_num, by go_num, by omega, by omega, HH.out, q, rfl⟩
        case measure => simp [intOf]; omega
      · obtain rfl : x = 0 := by omega
        have htop := bits_top (c := c) HF.out (by rw [HT.out]; have := HX.out.2; simpa using this)
        have HTop := hid htop
        clear htop
        go_wp2
        go_ret
        exact ⟨32 * n + c, rfl, ⟨q, rfl⟩, by omega, HTop.out⟩

theorem dWord_c {w : World} {V : Nat} (hV : V < 4294967296) :
    Calls Tryz.prog 113 #[.int .u64 (V : Int)] w fun e w' => ∃ z k c d, e = .returned (.slice z k c) ∧ Below w.heap.size w w' ∧ Hid (k ≤ 1 ∧ Dn w' z k d V) :=
  (word_c V w (by omega) (by omega)).mono (fun _ _ ⟨k, h1, h2, h3, h4, h5, h6⟩ => ⟨_, k, 2, _, h1, h2, h3, h4, fun j hj => ⟨by omega, by omega⟩, h6, by
    rcases (show k = 0 ∨ k = 1 by omega) with h | h
    · subst h; have := h5 rfl; simp [vd]; omega
    · subst h; simp [vd, pd]⟩)
theorem dAddO_c {w x n c d A y m e g B} (ha : Dn w x n d A) (hb : Dn w y m g B) (hn : n ≤ 65536) (hm : m ≤ 65536) :
    Calls Tryz.prog 112 #[.slice x n c, .slice y m e] w fun e w' => ∃ z k c' q, e = .returned (.slice z k c') ∧ Below w.heap.size w w' ∧ Hid (k ≤ n + m + 1 ∧ Dn w' z k q (A + B) ∧ ∀ a, z = some a → w.heap.size ≤ a.block) :=
  (raddO_c x y n m c e d g w (by omega) (by omega) ha.rd hb.rd ha.dg hb.dg).mono (fun _ _ ⟨z, k, c', q, h1, h2, h3, h4, h5, h6, h8, h7⟩ => ⟨z, k, c', q, h1, h2, h4, ⟨h3, h5, h6, by rw [h7, ha.val, hb.val]; omega⟩, h8⟩)
theorem dSubO_c {w x n c d A y m e g B} (ha : Dn w x n d A) (hb : Dn w y m g B) (hn : n ≤ 65536) (hm : m ≤ 65536) (hle : B ≤ A) :
    Calls Tryz.prog 116 #[.slice x n c, .slice y m e] w fun e w' => ∃ z k c' q, e = .returned (.slice z k c') ∧ Below w.heap.size w w' ∧ Hid (k ≤ n ∧ Dn w' z k q (A - B) ∧ ∀ a, z = some a → w.heap.size ≤ a.block) :=
  (rsubO_c x y n m c e d g w (by omega) (by omega) (vd_len hb.dg ha.dg hb.fm (by rw [ha.val, hb.val]; omega)) ha.rd hb.rd ha.dg hb.dg (by rw [ha.val, hb.val]; omega)).mono (fun _ _ ⟨z, k, c', q, h1, h2, h3, h4, h5, h6, h8, h7⟩ => ⟨z, k, c', q, h1, h2, h4, ⟨h3, h5, h6, by rw [h7, ha.val, hb.val]; omega⟩, h8⟩)
theorem Dn.len {w x n d A y m g B} (ha : Dn w x n d A) (hb : Dn w y m g B) (hle : A ≤ B) : n ≤ m := vd_len ha.dg hb.dg ha.fm (by rw [ha.val, hb.val]; omega)
theorem Dn.setq {w x n d A} {G i : Nat} {u : Value} (h : Dn w x n d A) (hG : ∀ a, x = some a → G < a.block) : Dn (w.setCell ⟨G, i, none⟩ u) x n d A := ⟨h.rd.only ((Only.refl _ _).setCell _ _ _) (fun a ha => by have := hG a ha; omega), h.dg, h.fm, h.val⟩
theorem div_next0 {A V Qv R β : Nat} {k : Nat} (h : A / 2 ^ (k + 1) = Qv * V + R) (hb : A / 2 ^ k % 2 = β) : A / 2 ^ k = 2 * Qv * V + (R + R + β) := by
  have : A / 2 ^ (k + 1) = A / 2 ^ k / 2 := by rw [Nat.pow_succ, Nat.div_div_eq_div_mul]
  have e : 2 * Qv * V = 2 * (Qv * V) := Nat.mul_assoc _ _ _
  omega
theorem div_next1 {A V Qv R β : Nat} {k : Nat} (h : A / 2 ^ (k + 1) = Qv * V + R) (hb : A / 2 ^ k % 2 = β) (hge : V ≤ R + R + β) : A / 2 ^ k = (2 * Qv + 1) * V + (R + R + β - V) := by
  have := div_next0 h hb
  rw [Nat.add_mul, Nat.one_mul]; omega
theorem div_end {A V Q R : Nat} (h : A = Q * V + R) (hR : R < V) : A / V = Q ∧ A % V = R := by
  subst h
  constructor
  · rw [Nat.mul_comm, Nat.mul_add_div (by omega), Nat.div_eq_of_lt hR, Nat.add_zero]
  · rw [Nat.mul_comm, Nat.mul_add_mod, Nat.mod_eq_of_lt hR]

set_option maxRecDepth 100000 in
set_option maxHeartbeats 4000000 in
theorem rdivL_c {w : World} {x : Option Addr} {n c : Nat} {f : Nat → Int} {A : Nat} {y : Option Addr} {m e : Nat} {g : Nat → Int} {V : Nat} (ha : Dn w x n f A) (hb : Dn w y m g V) (hn : n ≤ 8192) (hm : m ≤ 8192) (hV : 0 < V) (hm1 : m ≠ 1) :
    Calls Tryz.prog 53 #[.slice x n c, .slice y m e] w fun e w' => ∃ zq kq cq q zr kr cr r, e = .returned (.tuple #[.slice zq kq cq, .slice zr kr cr]) ∧ Below w.heap.size w w' ∧ Hid (kq ≤ n ∧ kr ≤ m ∧ Dn w' zq kq q (A / V) ∧ Dn w' zr kr r (A % V)) := by
  have HA := hid ha; have HB := hid hb
  clear ha hb
  have hmd : ((m : Int) == 1) = false := by simp; omega
  go_enter Tryz.func53, Tryz.ntmps53
  go_wp2_with (at_make; refine wpList_make_blk .u64 w rfl (.tmp 20) (.tmp 20) 22 rfl 43 8 Tryz.underlying22 Tryz.infoU64 .i64 .i64 n n n rfl rfl rfl rfl (by omega) (by unfold maxLen; omega) ?_; intro wa hba hbela)
  have HAa := hid (HA.out.below hbela); have HBa := hid (HB.out.below hbela)
  have HQ := hid hba; have HW := hid hbela
  clear hba hbela
  refine (rbits_c x n c f _ (by omega) HAa.out.rd HAa.out.dg).mono ?_
  rintro e w1 ⟨B, rfl, ⟨q0, hq⟩, HBt⟩
  have hb := drewN_bel hq
  have HQ1 := hid (HQ.out.below hb HQ.out.lt); have HW1 := hid (HW.out.trans (hb.mono HW.out.size))
  clear hq hb HQ HW HAa HBa
  have hB32 := HBt.out.1
  go_wp2
  go_loopw [7, 8] (fun u t wr => ∃ (k kr cr R Qv : Nat) (z : Option Addr) (d Q : Nat → Int), k ≤ B ∧ t = .int .i64 ((k : Int) - 1) ∧ u = .slice z kr cr ∧ Hid (Below w.heap.size w wr) ∧ Hid (Blk .u64 43 wr w.heap.size n Q) ∧ Hid (Dg Q n) ∧ Hid (Dn wr z kr d R) ∧ Hid (∀ a, z = some a → w.heap.size < a.block) ∧ Hid (R < V) ∧ Hid (vd Q n = ((Qv * 2 ^ k : Nat) : Int)) ∧ Hid (A / 2 ^ k = Qv * V + R)) (fun _ t _ => (intOf t + 1).toNat)
  case atStart =>
    refine ⟨B, 0, 0, 0, 0, none, fun _ => 0, fun _ => 0, by omega, rfl, rfl, HW1.out, HQ1.out, fun j _ => ⟨Int.le_refl 0, show (0 : Int) < 4294967296 by decide⟩, ⟨Rd.zero, fun j hj => by omega, .inl rfl, rfl⟩, (fun a h => by cases h), hV, hid (by rw [vd_zero (fun _ _ => rfl)]; simp), hid ?_⟩
    have h2 := HBt.out.2
    rw [HA.out.val] at h2
    rw [Nat.div_eq_of_lt (by exact_mod_cast h2)]; omega
  case round =>
    clear HQ1 HW1
    obtain ⟨k, kr, cr, R, Qv, z, d, Q, hk, rfl, rfl, HWr, HQr, HDg, HR, HO, HRV, HVq, HVa⟩ := hrel
    have HAr := hid (HA.out.below HWr.out); have HBr := hid (HB.out.below HWr.out)
    have hkr : kr ≤ m := HR.out.len HBr.out (Nat.le_of_lt HRV.out)
    cases k with
    | zero =>
      go_wp2_with fail
      refine (low_c (some ⟨w.heap.size, 0, none⟩) n n Q wr (Nat.le_refl _) (by omega) (HQr.out.rd0 (Nat.le_refl _)) (fun h => by cases h)).mono ?_
      rintro e w2 ⟨rfl, k1, hk1, hz, hfm, rfl⟩
      have HZ2 := hid hz; have HFM := hid hfm
      clear hz hfm
      go_wp2
      go_ret2
      have hA : A = Qv * V + R := by have := HVa.out; simpa using this
      obtain ⟨e1, e2⟩ := div_end hA HRV.out
      refine ⟨_, k1, _, Q, z, kr, cr, d, rfl, HWr.out, hk1, hkr, ⟨(HQr.out.rd0 (Nat.le_refl _)).take hk1, HDg.out.mono hk1, HFM.out, ?_⟩, by rw [e2]; exact HR.out⟩
      rw [trim_vald hk1 HZ2.out, HVq.out, e1]; simp
    | succ k =>
      have hkb : k < 32 * n := by have := HBt.out.1; omega
      obtain ⟨β, hβ⟩ : ∃ β, A / 2 ^ k % 2 = β := ⟨_, rfl⟩
      have hβ1 : β < 2 := by rw [← hβ]; exact Nat.mod_lt _ (by decide)
      have HBe := hid hβ
      have CB := hid (show ∀ W, Below wr.heap.size wr W → Calls Tryz.prog 114 #[.slice x n c, .int .i64 (k : Int)] W fun e w' => e = .returned (.int .u64 (β : Int)) ∧ w' = W from fun W hW => (rbit_c x n c f k W (by omega) (HAr.out.below hW).rd HAr.out.dg hkb).mono (fun e w' ⟨h1, h2⟩ => ⟨by rw [h1, HAr.out.val, ← hβ]; simp, h2⟩))
      clear hβ
      go_wp2_with fail
      refine (dAddO_c HR.out HR.out (by omega) (by omega)).mono ?_
      rintro e w2 ⟨z2, k2, c2, d2, rfl, hb2, H2⟩
      have HB2 := hid hb2
      clear hb2
      go_wp2_with fail
      refine (CB.out _ HB2.out).mono ?_
      rintro e w3 ⟨rfl, rfl⟩
      go_wp2_with fail
      refine (dWord_c (V := β) (by omega)).mono ?_
      rintro e w4 ⟨z4, k4, c4, d4, rfl, hb4, H4⟩
      have HB4 := hid hb4
      clear hb4
      have hk2 := H2.out.1; have hk4 := H4.out.1
      go_wp2_with fail
      refine (dAddO_c (H2.out.2.1.below HB4.out) H4.out.2 (by omega) (by omega)).mono ?_
      rintro e w5 ⟨z5, k5, c5, d5, rfl, hb5, H5⟩
      have HB5 := hid (HB2.out.trans ((HB4.out.mono HB2.out.size).trans (hb5.mono (Nat.le_trans HB2.out.size HB4.out.size))))
      have hk5 := H5.out.1
      have HO5 : Hid (∀ a, z5 = some a → w.heap.size < a.block) := fun a ha => by
        have h1 := H5.out.2.2 a ha; have h2 := HB2.out.size; have h3 := HB4.out.size; have h4 := HQr.out.lt; omega
      clear hb5 HB2 HB4 H2 H4 CB
      go_wp2_with fail
      refine (rcmp_c z5 y k5 m c5 e d5 g _ (by omega) (by omega) H5.out.2.1.rd (HBr.out.below HB5.out).rd H5.out.2.1.dg HBr.out.dg H5.out.2.1.fm HBr.out.fm).mono ?_
      rintro e w6 ⟨⟨q6, hq6⟩, cc, rfl, hord⟩
      have hb6 := drewN_bel hq6
      rw [H5.out.2.1.val, HBr.out.val] at hord
      have HB6 := hid (HB5.out.trans (hb6.mono HB5.out.size)); have H6 := hid (H5.out.2.1.below hb6)
      clear hq6 hb6 HB5 H5
      by_cases hge : V ≤ R + R + β
      · have hsg : decide ((0 : Int) ≤ cc) = true := by
          rcases hord with ⟨h1, h2⟩ | ⟨h1, h2⟩ | ⟨h1, h2⟩ <;> subst h1 <;> first | rfl | (exfalso; omega)
        clear hord
        go_wp2_with fail
        refine (dSubO_c H6.out (HBr.out.below HB6.out) (by omega) (by omega) hge).mono ?_
        rintro e w7 ⟨z7, k7, c7, d7, rfl, hb7, H7⟩
        have HB7 := hid (HB6.out.trans (hb7.mono HB6.out.size))
        have HO7 : Hid (∀ a, z7 = some a → w.heap.size < a.block) := fun a ha => by
          have h1 := H7.out.2.2 a ha; have h2 := HB6.out.size; have h4 := HQr.out.lt; omega
        clear hb7 HB6 H6 hsg
        obtain ⟨j, s, hjs, hs⟩ : ∃ j s, k = 32 * j + s ∧ s ≤ 31 := ⟨k / 32, k % 32, by omega, by omega⟩
        have hj : j < n := by omega
        have HQ7 := hid (HQr.out.below HB7.out HQr.out.lt)
        obtain ⟨u, hu⟩ : ∃ u, Q j = u := ⟨_, rfl⟩
        have hcell := HQ7.out.cell hj
        have hfz := HQ7.out.frozen j
        obtain ⟨u0, u1⟩ := HDg.out j hj
        have hpow : ((Qv * 2 ^ (k + 1) : Nat) : Int) = (Qv : Int) * (2 ^ (s + 1) * pd j) := by
          rw [pd_pow, ← Int.pow_add, hjs, show s + 1 + 32 * j = 32 * j + s + 1 by omega]; simp
        have hroom := bit_room HDg.out hj hs (HVq.out.trans hpow)
        rw [hu] at hcell u0 u1 hroom
        have hp0 := p2_pos s
        have hp1 := p2_le hs
        obtain ⟨P, hP⟩ : ∃ P : Int, 2 ^ s = P := ⟨_, rfl⟩
        rw [hP] at hp0 hp1 hroom
        have z1 : (k : Int) ≤ 67108927 := by omega
        have h3 : Int.tdiv (k : Int) 32 = (j : Int) := by rw [Int.tdiv_eq_ediv_of_nonneg (by omega)]; omega
        have h4 : Int.tmod (k : Int) 32 = (s : Int) := by rw [Int.tmod_eq_emod_of_nonneg (by omega)]; omega
        have h5 : IntKind.u64.wrap (2 ^ s) = P := by rw [hP, IntKind.wrap_u64]; omega
        have h6 : k / 32 = j := by omega
        have h7 : k % 32 = s := by omega
        have h8 : (k : Int) / 32 = (j : Int) := by omega
        have h9 : (k : Int) % 32 = (s : Int) := by omega
        have HU := hid hu; have HP := hid hP; have HJS := hid hjs
        clear hu hP hpow hjs
        go_wp2_with fail
        go_region
        all_goals go_wp2
        go_roundw
        case rel =>
          refine ⟨k, k7, c7, R + R + β - V, 2 * Qv + 1, z7, d7, upd Q j (u + P), by omega, by go_num, rfl, below_only (HWr.out.trans (HB7.out.mono HWr.out.size)) (((Only.refl _ _).setCell _ _ _).drew) (Nat.le_refl _) (Nat.le_trans HWr.out.size HB7.out.size), (HQ7.out.set _ _).drew, HDg.out.upd ⟨by omega, hroom⟩, (H7.out.2.1.setq HO7.out).drew, HO7.out, hid ?_, hid ?_, hid (div_next1 HVa.out HBe.out hge)⟩
          · have := HRV.out; omega
          · rw [vd_upd hj, HVq.out, HU.out, ← HP.out, pd_pow, show u + 2 ^ s - u = (2 : Int) ^ s by omega, ← Int.pow_add, show s + 32 * j = k by have := HJS.out; omega, Nat.pow_succ]
            push_cast
            grind
        case measure => simp [intOf]
      · have hsg : decide ((0 : Int) ≤ cc) = false := by
          rcases hord with ⟨h1, h2⟩ | ⟨h1, h2⟩ | ⟨h1, h2⟩ <;> subst h1 <;> first | rfl | (exfalso; omega)
        clear hord
        go_wp2
        go_roundw
        case rel =>
          refine ⟨k, k5, c5, R + R + β, 2 * Qv, z5, d5, Q, by omega, by go_num, rfl, HWr.out.trans (HB6.out.mono HWr.out.size), HQr.out.below HB6.out HQr.out.lt, HDg.out, H6.out, HO5.out, hid (by omega), hid ?_, hid (div_next0 HVa.out HBe.out)⟩
          rw [HVq.out, Nat.pow_succ]; push_cast; grind
        case measure => simp [intOf]

set_option maxRecDepth 100000 in
set_option maxHeartbeats 2000000 in
theorem rdivS_c {w : World} {x : Option Addr} {n c : Nat} {f : Nat → Int} {A : Nat} {y : Option Addr} {e : Nat} {g : Nat → Int} {V : Nat} (ha : Dn w x n f A) (hb : Dn w y 1 g V) (hn : n ≤ 8192) :
    Calls Tryz.prog 53 #[.slice x n c, .slice y 1 e] w fun e w' => ∃ zq kq cq q zr kr cr r, e = .returned (.tuple #[.slice zq kq cq, .slice zr kr cr]) ∧ Below w.heap.size w w' ∧ Hid (kq ≤ n ∧ kr ≤ 1 ∧ Dn w' zq kq q (A / V) ∧ Dn w' zr kr r (A % V)) := by
  obtain ⟨b, o, rfl⟩ := hb.rd.at (by omega)
  have hcell := hb.rd.cell (j := 0) (by omega)
  obtain ⟨t0, t1⟩ := hb.dg 0 (by omega)
  have hv := hb.val
  have hne : g 0 ≠ 0 := by rcases hb.fm with h | h; omega; exact h
  obtain ⟨t, ht⟩ : ∃ t, g 0 = t := ⟨_, rfl⟩
  have hv1 : vd g 1 = g 0 := by simp [vd, pd]
  rw [hv1] at hv
  rw [ht] at hcell t0 t1 hv hne
  rw [Nat.add_zero] at hcell
  have HA := hid ha; have HV := hid hv
  clear ha hb ht hv hv1
  go_enter Tryz.func53, Tryz.ntmps53
  go_wp2_with fail
  refine (short_c x n c f t _ (by omega) HA.out.rd HA.out.dg (by omega) t1).mono ?_
  rintro e w2 ⟨a1, k1, c1, q, a2, k2, c2, R, rfl, hb2, hk1, hr1, hd1, hf1, hk2, hr2, hx2, hf2, hR0, hR1, hval⟩
  have hq0 := vd_nonneg hd1
  have hres : Hid (k1 ≤ n ∧ k2 ≤ 1 ∧ Dn w2 a1 k1 q (A / V) ∧ Dn w2 a2 k2 (fun _ => R) (A % V)) := by
    obtain ⟨Q, hQ⟩ : ∃ Q : Nat, vd q k1 = Q := ⟨(vd q k1).toNat, by omega⟩
    obtain ⟨r, hr⟩ : ∃ r : Nat, R = r := ⟨R.toNat, by omega⟩
    have e1 : A = Q * V + r := by
      rw [HA.out.val, hQ, hr, HV.out] at hval
      exact_mod_cast hval
    obtain ⟨e2, e3⟩ := div_end e1 (by have := HV.out; omega)
    refine ⟨hk1, hk2, ⟨hr1, hd1, hf1, by rw [hQ, e2]⟩, ⟨hr2, fun j hj => ⟨hR0, by omega⟩, hf2, ?_⟩⟩
    rw [e3]
    rcases (show k2 = 0 ∨ k2 = 1 by omega) with h | h
    · subst h; have := hx2 rfl; simp [vd]; omega
    · subst h; simp [vd, pd]; exact hr
  have HB2 := hid hb2
  clear hb2 hr1 hd1 hf1 hr2 hx2 hf2 hval hq0
  go_wp2
  go_ret2
  exact ⟨a1, k1, c1, q, a2, k2, c2, _, rfl, HB2.out, hres.out⟩

theorem rdiv_c {w : World} {x : Option Addr} {n c : Nat} {f : Nat → Int} {A : Nat} {y : Option Addr} {m e : Nat} {g : Nat → Int} {V : Nat} (ha : Dn w x n f A) (hb : Dn w y m g V) (hn : n ≤ 8192) (hm : m ≤ 8192) (hV : 0 < V) :
    Calls Tryz.prog 53 #[.slice x n c, .slice y m e] w fun e w' => ∃ zq kq cq q zr kr cr r, e = .returned (.tuple #[.slice zq kq cq, .slice zr kr cr]) ∧ Below w.heap.size w w' ∧ Hid (kq ≤ n ∧ kr ≤ m ∧ Dn w' zq kq q (A / V) ∧ Dn w' zr kr r (A % V)) := by
  by_cases h1 : m = 1
  · subst h1; exact rdivS_c ha hb hn
  · exact rdivL_c ha hb hn hm hV h1
end Go.Proofs.YtbmdhfpgkemilaaGreatDoor

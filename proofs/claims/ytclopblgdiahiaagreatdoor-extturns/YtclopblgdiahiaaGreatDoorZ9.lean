/-
  Walks of the document's reference for rat: Mk, whatever the numbers' lengths. Walks of the document's reference for rat: From, Neg, Sign, Add. Walks of the document's reference for whole: Divide. Walks of package rat's clone, Copy and Neg. The walk of package rat's call Cmp. Walks of the document's reference for rat: Add, Sub, Cmp. Walks of rat's Sign and Cmp, whatever they are handed, and of the document's: DocSign, DocCmp. Walks of the document's reference for rat: Mul, Quo, Int, To, DocOf, DocNeg. Walks of rat's calls where they tell that a number is not in form, and of the document's Doc, DocNeg there; DocNeg. Walks of the document's reference for rat: Int, DocOf. The walk of the document's reference for rat: Doc, of numbers in form. Walks of rat's Add, Sub, Mul, Quo, whatever they are handed, and of the statements' call. The walk of rat.Of. Walks of the document's reference for rat: Twin; the same digits elsewhere. Walks of package rat's calls Text on numbers in form, and Read on the text 4/2.
-/
import Derived.Test.YtclopblgdiahiaaGreatDoorZ8
import Derived.Test.YtclopblgdiahiaaGreatDoorZ7
namespace Go.Proofs.YtclopblgdiahiaaGreatDoor
open Go.RowKit

/-- What Mk answers. -/
def MkGot (s : Bool) (n m : Nat) (A B : Nat) (w w' : World) (en : Ending) : Prop := ∃ r z k c' d' z2 k2 c2 d2, en = .returned (.agg #[.bool r, .slice z k c', .slice z2 k2 c2]) ∧ Below w.heap.size w w' ∧ k ≤ n + 2 ∧ k2 ≤ m + 2 ∧ r = (s && decide (0 < k)) ∧ Dn w' z k d' (A / A.gcd B) ∧ Dn w' z2 k2 d2 (B / A.gcd B)
theorem and_pos {s : Bool} {n : Nat} (h : 0 < n) : s = (s && decide (0 < n)) := by simp [h]

set_option maxRecDepth 100000 in
set_option maxHeartbeats 8000000 in
theorem mkZero_c {w : World} {s : Bool} {x : Option Addr} {c : Nat} {d : Nat → Int} {y : Option Addr} {m e : Nat} {g : Nat → Int} {A B : Nat} (ha : Dn w x 0 d A) (_hb : Dn w y m g B) (hs : s = false) (hB : 0 < B) :
    Calls Tryz.prog 127 #[.agg #[.bool s, .slice x 0 c], .slice y m e] w fun en w' => MkGot s 0 m A B w w' en := by
  have hA := ha.zero
  have h3 := ob_new (w.alloc (.cells #[.bool s, .slice x 0 c] 82)) 84
  rw [size_alloc1] at h3
  have h4 := below_alloc (below_alloc (Below.refl w.heap.size w) (.cells #[.bool s, .slice x 0 c] 82)) (.cells #[.bool false, .slice none 0 0, .slice none 0 0] 84)
  have h5 : Bx ((w.alloc (.cells #[.bool s, .slice x 0 c] 82)).alloc (.cells #[.bool false, .slice none 0 0, .slice none 0 0] 84)) w.heap.size s x 0 c := Bx.alloc ⟨by simp, kN0, kN1⟩ _
  clear ha
  have HA := hid hA; have HS := hid hs
  clear hA hs
  go_enter Tryz.func127, Tryz.ntmps127
  go_wp2_with fail
  generalize (w.alloc (.cells #[.bool s, .slice x 0 c] 82)).alloc (.cells #[.bool false, .slice none 0 0, .slice none 0 0] 84) = w1 at *
  have OB := hid h3; have HW := hid h4
  obtain ⟨hz, z0, z1, z2, zf⟩ := h3
  obtain ⟨za, a0, a1⟩ := h5
  clear h4
  have C1 : Hid (∀ W : World, Calls Tryz.prog 121 #[.int .u64 1] W fun e w' => ∃ z k cap d, e = .returned (.slice z k cap) ∧ Below W.heap.size W w' ∧ Hid (k ≤ 1 ∧ Dn w' z k d 1)) := fun W => dWord_c (V := 1) (by decide)
  go_region_held3 (fun w' => w'.cell? ⟨w.heap.size, 0, none⟩ = some (.bool s) ∧ w'.cell? ⟨w.heap.size, 1, none⟩ = some (.slice x 0 c) ∧ (w'.cell? ⟨w.heap.size + 1, 0, none⟩).isSome = true ∧ (w'.cell? ⟨w.heap.size + 1, 1, none⟩).isSome = true ∧ (w'.cell? ⟨w.heap.size + 1, 2, none⟩).isSome = true ∧ w'.frozen? ⟨w.heap.size + 1, 0, none⟩ = false ∧ w'.frozen? ⟨w.heap.size + 1, 1, none⟩ = false ∧ w'.frozen? ⟨w.heap.size + 1, 2, none⟩ = false)
    (refine ⟨?_, ?_, ?_, ?_, ?_, ?_, ?_, ?_⟩ <;> repeat (with_reducible first | assumption | exact zf _ | exact tf _ | exact kI0 z0 | exact kI0 z1 | exact kI0 z2 | exact kI0 t0 | exact kI0 t1 | exact kI0 t2 | refine kCd ?_ | refine kId ?_ | refine kFd ?_ | refine kCs (by simp only [ne_eq]; omega) ?_ | refine kIs ?_ | refine kFs ?_ | refine kCb (by assumption) ?_ | refine kIb (by assumption) ?_))
    (first | (go_at_call 121; with_reducible refine (C1.out _).mono ?_; rintro e w5 ⟨zb, kb, cb, db, rfl, hb5, HP⟩; have TU : Ob w5 (w.heap.size + 1) := (by repeat (with_reducible first | exact OB.out | refine Ob.drew ?_ | refine kOb (by assumption) ?_)); obtain ⟨_, t0, t1, t2, tf⟩ := id TU))
  all_goals
    have hb : Below w1.heap.size w1 w5 := (by repeat (with_reducible first | assumption | exact Below.refl _ _ | refine Below.drew ?_ | refine kBb (by assumption) ?_))
    go_wp2
    refine bodyPost_ret (v := .agg #[.bool s, .slice x 0 c, .slice zb kb cb]) (by simp [results, Tryz.results127, go_sem, t0, t1, t2]) rfl ⟨s, x, 0, c, fun _ => 0, zb, kb, cb, db, rfl, below_st (HW.out.trans (hb.mono HW.out.size)) (by omega), by omega, by have := HP.out.1; omega, by rw [HS.out]; rfl, ?_, ?_⟩
    · rw [HA.out, Nat.zero_div]; exact ⟨Rd.zero, fun j hj => by omega, .inl rfl, rfl⟩
    · rw [HA.out, Nat.gcd_zero_left, Nat.div_self hB]; exact TU.dn HP.out.2

set_option maxRecDepth 100000 in
set_option maxHeartbeats 8000000 in
theorem mkLong_c {w : World} {s : Bool} {x : Option Addr} {n c : Nat} {d : Nat → Int} {y : Option Addr} {m e : Nat} {g : Nat → Int} {A B : Nat} (ha : Dn w x n d A) (hb : Dn w y m g B) (h0 : 0 < A) (hn : n ≤ 4096) (hm : m ≤ 4096) (hB : 0 < B) (hl : ¬ (n ≤ 2 ∧ m ≤ 2)) :
    Calls Tryz.prog 127 #[.agg #[.bool s, .slice x n c], .slice y m e] w fun en w' => MkGot s n m A B w w' en := by
  have hn0 := ha.pos h0
  have h1 := (ha.alloc (.cells #[.bool s, .slice x n c] 82)).alloc (.cells #[.bool false, .slice none 0 0, .slice none 0 0] 84)
  have h2 := (hb.alloc (.cells #[.bool s, .slice x n c] 82)).alloc (.cells #[.bool false, .slice none 0 0, .slice none 0 0] 84)
  have h3 := ob_new (w.alloc (.cells #[.bool s, .slice x n c] 82)) 84
  rw [size_alloc1] at h3
  have h4 := below_alloc (below_alloc (Below.refl w.heap.size w) (.cells #[.bool s, .slice x n c] 82)) (.cells #[.bool false, .slice none 0 0, .slice none 0 0] 84)
  have h5 : Bx ((w.alloc (.cells #[.bool s, .slice x n c] 82)).alloc (.cells #[.bool false, .slice none 0 0, .slice none 0 0] 84)) w.heap.size s x n c := Bx.alloc ⟨by simp, kN0, kN1⟩ _
  clear ha hb
  have hnd : ((n : Int) == 0) = false := by simp; omega
  have hcase : decide ((n : Int) ≤ 2) = false ∨ (decide ((n : Int) ≤ 2) = true ∧ decide ((m : Int) ≤ 2) = false) := by
    by_cases h : n ≤ 2
    · right; exact ⟨decide_eq_true (by omega), decide_eq_false (by omega)⟩
    · left; exact decide_eq_false (by omega)
  have HBp := hid hB; have HAp := hid h0
  have HGp := hid (show 0 < A.gcd B from Nat.gcd_pos_of_pos_left _ h0)
  clear hl hB h0
  go_enter Tryz.func127, Tryz.ntmps127
  rcases hcase with hd1 | ⟨hd1, hd2⟩
  all_goals
    go_wp2_with fail
    generalize (w.alloc (.cells #[.bool s, .slice x n c] 82)).alloc (.cells #[.bool false, .slice none 0 0, .slice none 0 0] 84) = w1 at *
    have HA := hid h1; have HB := hid h2; have OB := hid h3; have HW := hid h4; have BX := hid h5
    clear h1 h2 h3 h4 h5
    refine (rgcd_c HA.out HB.out (by omega) (by omega)).mono ?_
    rintro en w2 ⟨zg, kg, cg, dg, rfl, hb2, HG⟩
    have HB2 := hid hb2
    have hkg := HG.out.1
    have hone := HG.out.2.one_iff
    clear hb2
    obtain ⟨za, a0, a1⟩ := BX.out.below HB2.out
    by_cases hg1 : A.gcd B = 1
    · obtain ⟨hk1, hd0⟩ := hone.1 hg1
      subst hk1
      have hr := HG.out.2.rd
      obtain ⟨bk, o, rfl⟩ := hr.at (by omega)
      have hcell := hr.cell (j := 0) (by omega)
      rw [hd0, Nat.add_zero] at hcell
      have HG1 := hid hg1
      clear hg1 hone hr hd0
      obtain ⟨hz, z0, z1, z2, zf⟩ := OB.out.below HB2.out
      go_wp2
      refine bodyPost_ret (v := .agg #[.bool s, .slice x n c, .slice y m e]) (by simp [results, Tryz.results127, go_sem, z0, z1, z2]) rfl ⟨s, x, n, c, d, y, m, e, g, rfl, below_st (HW.out.trans (HB2.out.mono HW.out.size)) (by omega), by omega, by omega, and_pos hn0, ?_, ?_⟩
      · rw [HG1.out, Nat.div_one]; exact (OB.out.below HB2.out).dn (HA.out.below HB2.out)
      · rw [HG1.out, Nat.div_one]; exact (OB.out.below HB2.out).dn (HB.out.below HB2.out)
    · have hgc : ((kg : Int) == 1) = false ∨ (kg = 1 ∧ (dg 0 == 1) = false) := by
        by_cases hk : kg = 1
        · right; refine ⟨hk, ?_⟩
          simp; intro h; exact hg1 (hone.2 ⟨hk, h⟩)
        · left; simp; omega
      have HGn := hid hg1
      clear hg1 hone
      rcases hgc with hgk | ⟨hgk, hgd⟩
      all_goals
        try (subst hgk; have hr := HG.out.2.rd; obtain ⟨bk, o, rfl⟩ := hr.at (by omega); have hcell := hr.cell (j := 0) (by omega); rw [Nat.add_zero] at hcell; clear hr)
        go_wp2_with fail
        refine (rdiv_c (HA.out.below HB2.out) HG.out.2 (by omega) (by omega) HGp.out).mono ?_
        rintro en w3 ⟨zq, kq, cq, dq, zr, kr, cr, dr, rfl, hb3, H3⟩
        have HB3 := hid hb3; have hkq := H3.out.1
        clear hb3
        go_wp2_with fail
        refine (rdiv_c ((HB.out.below HB2.out).below HB3.out) (HG.out.2.below HB3.out) (by omega) (by omega) HGp.out).mono ?_
        rintro en w4 ⟨zp, kp, cp, dp, zs, ks, cs, ds, rfl, hb4, H4⟩
        have HB4 := hid (HB2.out.trans ((HB3.out.trans (hb4.mono HB3.out.size)).mono HB2.out.size)); have HB34 := hid hb4
        have hkp := H4.out.1
        clear hb4 za a0 a1
        obtain ⟨za, a0, a1⟩ := BX.out.below HB4.out
        go_wp2_with fail
        refine (mkZ_c (by omega)).mono ?_
        rintro en w5 ⟨r5, rfl, hb5, HR5⟩
        have HB5 := hid (HB4.out.trans (hb5.mono HB4.out.size))
        have DQ := hid ((H3.out.2.2.1.below HB34.out).below hb5); have DP := hid (H4.out.2.2.1.below hb5)
        clear hb5 za a0 a1
        obtain ⟨hz, z0, z1, z2, zf⟩ := OB.out.below HB5.out
        go_wp2
        exact bodyPost_ret (v := .agg #[.bool r5, .slice zq kq cq, .slice zp kp cp]) (by simp [results, Tryz.results127, go_sem, z0, z1, z2]) rfl ⟨r5, zq, kq, cq, dq, zp, kp, cp, dp, rfl, below_st (HW.out.trans (HB5.out.mono HW.out.size)) (by omega), by omega, by omega, HR5.out, (OB.out.below HB5.out).dn DQ.out, (OB.out.below HB5.out).dn DP.out⟩

theorem mkQ_c {w : World} {s : Bool} {x : Option Addr} {n c : Nat} {d : Nat → Int} {y : Option Addr} {m e : Nat} {g : Nat → Int} {A B : Nat} (ha : Dn w x n d A) (hb : Dn w y m g B) (hs : s = true → 0 < n) (hn : n ≤ 4096) (hm : m ≤ 4096) (hB : 0 < B) :
    Calls Tryz.prog 127 #[.agg #[.bool s, .slice x n c], .slice y m e] w fun en w' => MkGot s n m A B w w' en := by
  rcases Nat.eq_zero_or_pos n with h0 | h0
  · subst h0
    exact mkZero_c ha hb (by cases s; rfl; exact absurd (hs rfl) (by omega)) hB
  · have hA := ha.pos' h0
    by_cases hl : n ≤ 2 ∧ m ≤ 2
    · exact (mkSmall_c ha hb hA hl.1 hl.2 hB).mono (fun _ _ ⟨r, z, k, c', d', z2, k2, c2, d2, h1, h2, h3, h4, h5, h6, h7⟩ => ⟨r, z, k, c', d', z2, k2, c2, d2, h1, h2, by omega, by omega, h5, h6, h7⟩)
    · exact mkLong_c ha hb hA hn hm hB hl
end Go.Proofs.YtclopblgdiahiaaGreatDoor
namespace Go.Proofs.YtclopblgdiahiaaGreatDoor
open Go.RowKit

/-- A rational number of the reference. -/
structure Qn (w : World) (s : Bool) (x : Option Addr) (n : Nat) (d : Nat → Int) (y : Option Addr) (m : Nat) (g : Nat → Int) (q : Rat) : Prop where
  num : Zn w s x n d q.num
  den : Dn w y m g q.den
theorem Qn.below {w w' s x n d y m g q} (h : Qn w s x n d y m g q) (hb : Below w.heap.size w w') : Qn w' s x n d y m g q := ⟨h.num.below hb, h.den.below hb⟩
theorem Qn.alloc {w s x n d y m g q} (h : Qn w s x n d y m g q) (o : Obj) : Qn (w.alloc o) s x n d y m g q := ⟨h.num.alloc o, h.den.alloc o⟩
theorem kQd {w s x n d y m g q} (h : Qn w s x n d y m g q) : Qn w.drew s x n d y m g q := ⟨⟨h.num.dn.drew, h.num.sgn, h.num.pos⟩, h.den.drew⟩
theorem kQb {w w' s x n d y m g q} (hb : Below w.heap.size w w') (h : Qn w s x n d y m g q) : Qn w' s x n d y m g q := h.below hb
theorem Ob.zn {w B u0 u1 u2 s x n d v} (h : Ob w B) (hx : Zn w s x n d v) : Zn (((w.setCell ⟨B, 0, none⟩ u0).setCell ⟨B, 1, none⟩ u1).setCell ⟨B, 2, none⟩ u2) s x n d v := ⟨h.dn hx.dn, hx.sgn, hx.pos⟩
theorem Ob.qn {w B u0 u1 u2 s x n d y m g q} (h : Ob w B) (hx : Qn w s x n d y m g q) : Qn (((w.setCell ⟨B, 0, none⟩ u0).setCell ⟨B, 1, none⟩ u1).setCell ⟨B, 2, none⟩ u2) s x n d y m g q := ⟨h.zn hx.num, h.dn hx.den⟩
/-- What a call answers: a rational number of the reference. -/
def QAns (L : Nat) (w w' : World) (e : Ending) (q : Rat) : Prop := ∃ s x n c d y m c' g, e = .returned (.agg #[.bool s, .slice x n c, .slice y m c']) ∧ Below w.heap.size w w' ∧ n ≤ L ∧ m ≤ L ∧ Qn w' s x n d y m g q
theorem qbox1 {w : World} (a0 a1 a2 : Value) (t u : TypeId) :
    Bx3 ((w.alloc (.cells #[a0, a1, a2] t)).alloc (.cells #[.bool false, .slice none 0 0, .slice none 0 0] u)) w.heap.size a0 a1 a2 ∧ Ob ((w.alloc (.cells #[a0, a1, a2] t)).alloc (.cells #[.bool false, .slice none 0 0, .slice none 0 0] u)) (w.heap.size + 1) ∧ Below w.heap.size w ((w.alloc (.cells #[a0, a1, a2] t)).alloc (.cells #[.bool false, .slice none 0 0, .slice none 0 0] u)) := by
  have h3 := ob_new (w.alloc (.cells #[a0, a1, a2] t)) u
  rw [size_alloc1] at h3
  exact ⟨(bx3_at w a0 a1 a2 t).below (below_alloc (Below.refl _ _) _), h3, below_alloc (below_alloc (Below.refl w.heap.size w) _) _⟩

end Go.Proofs.YtclopblgdiahiaaGreatDoor
namespace Go.Proofs.YtclopblgdiahiaaGreatDoor
open Go.RowKit

/-- A box that holds a sign and a list, and may be written. -/
structure X2 (w : World) (B : Nat) (s : Bool) (x : Option Addr) (n c : Nat) : Prop where
  z : B < w.heap.size
  c0 : w.cell? ⟨B, 0, none⟩ = some (.bool s)
  c1 : w.cell? ⟨B, 1, none⟩ = some (.slice x n c)
  zf : ∀ o, w.frozen? ⟨B, o, none⟩ = false
theorem X2.below {w w' B s x n c} (h : X2 w B s x n c) (hb : Below w.heap.size w w') : X2 w' B s x n c := by
  obtain ⟨h1, h2⟩ := bcell hb
  exact ⟨Nat.lt_of_lt_of_le h.z hb.size, kCb hb h.c0, kCb hb h.c1, fun o => (h2 _ _ h.z).trans (h.zf o)⟩
theorem x2_new (w : World) (t : TypeId) (s : Bool) (x : Option Addr) (n c : Nat) : X2 (w.alloc (.cells #[.bool s, .slice x n c] t)) w.heap.size s x n c := by
  refine ⟨by simp, by simp [go_sem], by simp [go_sem], fun o => ?_⟩
  have e := heap_alloc_new w (.cells #[.bool s, .slice x n c] t)
  simp only [World.frozen?, e]; simp
/-- A number stored into such a box. -/
theorem X2.put {w B s x n c} (h : X2 w B s x n c) (r : Bool) (y : Option Addr) (m d : Nat) : X2 ((w.setCell ⟨B, 0, none⟩ (.bool r)).setCell ⟨B, 1, none⟩ (.slice y m d)) B r y m d :=
  ⟨by simpa [World.setCell] using h.z, kCo (by decide) (kCe (kI0 h.c0)), kCe (kIs (kI0 h.c1)), fun o => kFs (kFs (h.zf o))⟩
theorem X2.dn {w B s x n c u0 u1 y m d V} (h : X2 w B s x n c) (hx : Dn w y m d V) : Dn ((w.setCell ⟨B, 0, none⟩ u0).setCell ⟨B, 1, none⟩ u1) y m d V :=
  ⟨rd_setne (cell_off (by decide) h.c1) (fun i h => by cases h) (rd_setne h.c0 (fun i h => by cases h) hx.rd), hx.dg, hx.fm, hx.val⟩
theorem X2.zn {w B s x n c u0 u1 t y m d v} (h : X2 w B s x n c) (hx : Zn w t y m d v) : Zn ((w.setCell ⟨B, 0, none⟩ u0).setCell ⟨B, 1, none⟩ u1) t y m d v := ⟨h.dn hx.dn, hx.sgn, hx.pos⟩
theorem X2.drew {w B s x n c} (h : X2 w B s x n c) : X2 w.drew B s x n c := ⟨h.z, h.c0, h.c1, h.zf⟩
theorem kX2b {w w' B s x n c} (hb : Below w.heap.size w w') (h : X2 w B s x n c) : X2 w' B s x n c := h.below hb
theorem Ob2.x2 {w B} (h : Ob2 w B) : X2 w B false none 0 0 := ⟨h.z, h.z0, h.z1, h.zf⟩
theorem Ob2.far {w B B' u0 u1} (h : Ob2 w B) (hB : B' ≠ B) : Ob2 ((w.setCell ⟨B', 0, none⟩ u0).setCell ⟨B', 1, none⟩ u1) B := ⟨by simpa [World.setCell] using h.z, kCs hB (kCs hB h.z0), kCs hB (kCs hB h.z1), fun o => kFs (kFs (h.zf o))⟩
theorem Bx.far {w B B' u0 u1 s x n c} (h : Bx w B s x n c) (hB : B' ≠ B) : Bx ((w.setCell ⟨B', 0, none⟩ u0).setCell ⟨B', 1, none⟩ u1) B s x n c := by
  obtain ⟨z, c0, c1⟩ := h
  exact ⟨by simpa [World.setCell] using z, kCs hB (kCs hB c0), kCs hB (kCs hB c1)⟩
theorem flr_same {u v : Int} {s t : Bool} (hst : s = t) (hu : u = sg s u.natAbs) (hv : v = sg t v.natAbs) (h0 : v ≠ 0) : Flr u v (sg false (u.natAbs / v.natAbs)) (u - sg false (u.natAbs / v.natAbs) * v) := by
  subst hst
  refine ⟨by omega, ?_⟩
  have e := Nat.div_add_mod u.natAbs v.natAbs
  have l := Nat.mod_lt u.natAbs (show 0 < v.natAbs by omega)
  have e' : (v.natAbs : Int) * (u.natAbs / v.natAbs : Nat) + (u.natAbs % v.natAbs : Nat) = u.natAbs := by exact_mod_cast e
  generalize u.natAbs / v.natAbs = Q at *
  generalize u.natAbs % v.natAbs = R at *
  have hs : sg false Q = (Q : Int) := rfl
  rw [hs]
  cases s
  · have e1 : u = u.natAbs := hu
    have e2 : v = v.natAbs := hv
    have e3 : u - Q * v = R := by rw [← e2, ← e1] at e'; rw [← e', Int.mul_comm]; omega
    rw [e3]; left; omega
  · have e1 : u = -(u.natAbs : Int) := hu
    have e2 : v = -(v.natAbs : Int) := hv
    have e3 : u - Q * v = -(R : Int) := by
      have : (Q : Int) * v = -((v.natAbs : Int) * Q) := by
        have k : (Q : Int) * v = (Q : Int) * -(v.natAbs : Int) := congrArg (fun z => (Q : Int) * z) e2
        rw [k, Int.mul_neg, Int.mul_comm]
      omega
    rw [e3]; right; omega
theorem flr_even {u v : Int} {s t : Bool} (hst : ¬ s = t) (hu : u = sg s u.natAbs) (hv : v = sg t v.natAbs) (h0 : v ≠ 0) (hR : u.natAbs % v.natAbs = 0) : Flr u v (sg true (u.natAbs / v.natAbs)) (u - sg true (u.natAbs / v.natAbs) * v) := by
  refine ⟨by omega, ?_⟩
  have e := Nat.div_add_mod u.natAbs v.natAbs
  rw [hR] at e
  have e' : (v.natAbs : Int) * (u.natAbs / v.natAbs : Nat) = u.natAbs := by exact_mod_cast e
  generalize u.natAbs / v.natAbs = Q at *
  have hs : sg true Q = -(Q : Int) := rfl
  rw [hs]
  have e3 : u - -(Q : Int) * v = 0 := by
    cases s <;> cases t
    · exact absurd rfl hst
    · have e1 : u = u.natAbs := hu
      have e2 : v = -(v.natAbs : Int) := hv
      have : -(Q : Int) * v = (v.natAbs : Int) * Q := by
        have k : -(Q : Int) * v = -(Q : Int) * -(v.natAbs : Int) := congrArg (fun z => -(Q : Int) * z) e2
        rw [k, Int.neg_mul_neg, Int.mul_comm]
      omega
    · have e1 : u = -(u.natAbs : Int) := hu
      have e2 : v = v.natAbs := hv
      have : -(Q : Int) * v = -((v.natAbs : Int) * Q) := by rw [Int.neg_mul, Int.mul_comm, ← e2]
      omega
    · exact absurd rfl hst
  rw [e3]; omega
theorem flr_rest {u v : Int} {s t : Bool} (hst : ¬ s = t) (hu : u = sg s u.natAbs) (hv : v = sg t v.natAbs) (h0 : v ≠ 0) (hR : 0 < u.natAbs % v.natAbs) : Flr u v (sg true (u.natAbs / v.natAbs) - 1) (u - (sg true (u.natAbs / v.natAbs) - 1) * v) := by
  refine ⟨by omega, ?_⟩
  have e := Nat.div_add_mod u.natAbs v.natAbs
  have l := Nat.mod_lt u.natAbs (show 0 < v.natAbs by omega)
  have e' : (v.natAbs : Int) * (u.natAbs / v.natAbs : Nat) + (u.natAbs % v.natAbs : Nat) = u.natAbs := by exact_mod_cast e
  generalize u.natAbs / v.natAbs = Q at *
  generalize u.natAbs % v.natAbs = R at *
  have hs : sg true Q = -(Q : Int) := rfl
  rw [hs, Int.sub_mul, Int.one_mul]
  cases s <;> cases t
  · exact absurd rfl hst
  · have e1 : u = u.natAbs := hu
    have e2 : v = -(v.natAbs : Int) := hv
    have : -(Q : Int) * v = (v.natAbs : Int) * Q := by
      have k : -(Q : Int) * v = -(Q : Int) * -(v.natAbs : Int) := congrArg (fun z => -(Q : Int) * z) e2
      rw [k, Int.neg_mul_neg, Int.mul_comm]
    rw [this]; omega
  · have e1 : u = -(u.natAbs : Int) := hu
    have e2 : v = v.natAbs := hv
    have : -(Q : Int) * v = -((v.natAbs : Int) * Q) := by rw [Int.neg_mul, Int.mul_comm, ← e2]
    rw [this]; omega
  · exact absurd rfl hst
theorem zboxes4 {w : World} (sa : Bool) (xa : Option Addr) (na ca : Nat) (sb : Bool) (xb : Option Addr) (nb cb : Nat) (t : TypeId) :
    Bx ((((w.alloc (.cells #[.bool sa, .slice xa na ca] t)).alloc (.cells #[.bool sb, .slice xb nb cb] t)).alloc (.cells #[.bool false, .slice none 0 0] t)).alloc (.cells #[.bool false, .slice none 0 0] t)) w.heap.size sa xa na ca ∧ Bx ((((w.alloc (.cells #[.bool sa, .slice xa na ca] t)).alloc (.cells #[.bool sb, .slice xb nb cb] t)).alloc (.cells #[.bool false, .slice none 0 0] t)).alloc (.cells #[.bool false, .slice none 0 0] t)) (w.heap.size + 1) sb xb nb cb ∧ Ob2 ((((w.alloc (.cells #[.bool sa, .slice xa na ca] t)).alloc (.cells #[.bool sb, .slice xb nb cb] t)).alloc (.cells #[.bool false, .slice none 0 0] t)).alloc (.cells #[.bool false, .slice none 0 0] t)) (w.heap.size + 1 + 1) ∧ Ob2 ((((w.alloc (.cells #[.bool sa, .slice xa na ca] t)).alloc (.cells #[.bool sb, .slice xb nb cb] t)).alloc (.cells #[.bool false, .slice none 0 0] t)).alloc (.cells #[.bool false, .slice none 0 0] t)) (w.heap.size + 1 + 1 + 1) ∧ Below w.heap.size w ((((w.alloc (.cells #[.bool sa, .slice xa na ca] t)).alloc (.cells #[.bool sb, .slice xb nb cb] t)).alloc (.cells #[.bool false, .slice none 0 0] t)).alloc (.cells #[.bool false, .slice none 0 0] t)) := by
  obtain ⟨h1, h2, h3, h4⟩ := zboxes (w := w) sa xa na ca sb xb nb cb t
  have h5 := ob2_new (((w.alloc (.cells #[.bool sa, .slice xa na ca] t)).alloc (.cells #[.bool sb, .slice xb nb cb] t)).alloc (.cells #[.bool false, .slice none 0 0] t)) t
  rw [size_alloc1, size_alloc1, size_alloc1] at h5
  exact ⟨h1.alloc _, h2.alloc _, h3.alloc _, h5, below_alloc h4 _⟩
theorem zInt1_c {w : World} : Calls Tryz.prog 83 #[.int .i64 1] w fun e w' => ∃ s x n c d, e = .returned (.agg #[.bool s, .slice x n c]) ∧ Below w.heap.size w w' ∧ Hid (n ≤ 2 ∧ Zn w' s x n d 1) := by
  refine (zInt_c 1 w (by decide) (by decide)).mono ?_
  rintro e w' ⟨s, x, n, c, d, rfl, h⟩
  have h0 := vd_nonneg h.dg
  have hv := h.val
  cases s
  · have hv' : vd d n = 1 := hv
    exact ⟨false, x, n, c, d, rfl, h.bel, h.le, ⟨h.rd, h.dg, h.fm, hv'⟩, rfl, h.sgn⟩
  · have hv' : - vd d n = 1 := hv
    omega
end Go.Proofs.YtclopblgdiahiaaGreatDoor
namespace Go.Proofs.YtclopblgdiahiaaGreatDoor
open Go.RowKit

set_option maxRecDepth 100000 in
set_option maxHeartbeats 400000 in
theorem rclone_c (ao : Option Addr) (n cap : Nat) (f : Nat → Int) (w : World) (hn : n ≤ 1048576) (hr : Rd .u64 w ao n f) (hnil : ao = none → n = 0 ∧ cap = 0) :
    Calls Tryz.prog 130 #[.slice ao n cap] w fun e w' => ∃ ao' cap', e = .returned (.slice ao' n cap') ∧ Below w.heap.size w w' ∧ Own .u64 28 w' w.heap.size (.slice ao' n cap') n f := by
  cases ao with
  | none =>
    obtain ⟨rfl, rfl⟩ := hnil rfl
    go_enter Tryz.func130, Tryz.ntmps130
    obtain ⟨i0, hi, hz0, hz1, hz2⟩ := info_parts Tryz.infoU64
    go_wp2_with (at_builtin; refine wpList_append_own_none rfl (.const (.slice none 0 0)) (.tmp 3) 22 rfl w.heap.size 28 i0 1 Tryz.underlying22 hi (.slice none 0 0) 0 [] rfl (World.ownsRow_nil _ _ _ _) rfl ?_)
    go_ret
    exact ⟨none, 0, rfl, Below.refl _ _, own_nil _ _ _ _ _⟩
  | some ad =>
    clear hnil
    have HR := hid hr
    clear hr
    go_enter Tryz.func130, Tryz.ntmps130
    obtain ⟨i0, hi, hz0, hz1, hz2⟩ := info_parts Tryz.infoU64
    go_wp2_with (at_builtin; refine wpList_append_own w rfl (.const (.slice none 0 0)) (.tmp 3) 22 rfl w.heap.size 28 i0 (.int .u64 0) 1 8 Tryz.underlying22 hi hz0 hz1 hz2 rfl (by decide) (.slice none 0 0) 0 [] rfl (World.ownsRow_nil _ _ _ _) ad n cap (lst .u64 f n) rfl (by rw [lst_length, Nat.mul_one]) ?c1 (lst_one _ _ _) ?c2 ?c3 (Nat.le_refl _) ?_)
    case c1 =>
      intro j u hu
      obtain ⟨hj, rfl⟩ := lst_getE hu
      obtain ⟨b, o, e, hc⟩ := HR.out j hj
      cases e
      rw [addr_add]; exact hc
    case c2 => unfold maxLen; omega
    case c3 => omega
    intro v' w' hown hgr _
    have hown' : Own .u64 28 w' w.heap.size v' n f := hown
    have hbel : Below w.heap.size w w' := (Below.refl _ _).grown hgr (Nat.le_refl _) (fun k h => by simp [Value.ownBlock] at h)
    obtain ⟨ao', cap', hv, hcc, hnn, hml, hrd, hlt⟩ := hown'.shape
    rw [hv] at hown' ⊢
    clear hown hgr hv
    have HO := hid hown'
    clear hown'
    go_wp2
    go_ret
    exact ⟨ao', cap', rfl, hbel, HO.out⟩
theorem cloneWn_c {w s x n c f v} (h : Wn w s x n c f v) (hn : n ≤ 4096) :
    Calls Tryz.prog 130 #[.slice x n c] w fun e w' => ∃ z c', e = .returned (.slice z n c') ∧ Below w.heap.size w w' ∧ Hid (Wn w' s z n c' f v) :=
  (rclone_c x n c f w (by omega) h.rd h.nil).mono (fun _ _ ⟨z, c', h1, h2, h3⟩ => ⟨z, c', h1, h2, h3.slice.2.2.2.1, h.lm, h.wf, ⟨h3.slice.1, h3.slice.2.1⟩, h3.slice.2.2.1, h.val⟩)

set_option maxRecDepth 100000 in
set_option maxHeartbeats 4000000 in
theorem rCopy_n {L : Nat} {w : World} {sa : Bool} {xa : Option Addr} {na ca : Nat} {fa : Nat → Int} {ya : Option Addr} {ma da : Nat} {ga : Nat → Int} {a : Rat} (ha : Rn L w sa xa na ca fa ya ma da ga a) (hL : L ≤ 1000) :
    Calls Tryz.prog 99 #[.agg #[.bool sa, .slice xa na ca, .slice ya ma da]] w fun e w' => ∃ x c y d, e = .returned (.agg #[.bool sa, .slice x na c, .slice y ma d]) ∧ Below w.heap.size w w' ∧ Rn L w' sa x na c fa y ma d ga a := by
  have b1 := ha.ln; have b2 := ha.ld
  have h1 := (ha.alloc (.cells #[.bool sa, .slice xa na ca, .slice ya ma da] 32)).alloc (.cells #[.bool false, .slice none 0 0, .slice none 0 0] 32)
  have h3 := ob_new (w.alloc (.cells #[.bool sa, .slice xa na ca, .slice ya ma da] 32)) 32
  rw [size_alloc1] at h3
  have h4 := below_alloc (below_alloc (Below.refl w.heap.size w) (.cells #[.bool sa, .slice xa na ca, .slice ya ma da] 32)) (.cells #[.bool false, .slice none 0 0, .slice none 0 0] 32)
  have h5 := (bx3_at w (.bool sa) (.slice xa na ca) (.slice ya ma da) 32).alloc (.cells #[.bool false, .slice none 0 0, .slice none 0 0] 32)
  clear ha
  go_enter Tryz.func99, Tryz.ntmps99
  go_wp2_with fail
  generalize (w.alloc (.cells #[.bool sa, .slice xa na ca, .slice ya ma da] 32)).alloc (.cells #[.bool false, .slice none 0 0, .slice none 0 0] 32) = w1 at *
  have HA := hid h1; have OB := h3; have HW := hid h4
  obtain ⟨hz, z0, z1, z2, zf⟩ := h3
  obtain ⟨hy, x0, x1, x2⟩ := h5
  clear h1 h4
  have C1 : Hid (∀ W, Below w1.heap.size w1 W → Calls Tryz.prog 130 #[.slice xa na ca] W fun e w' => ∃ z c', e = .returned (.slice z na c') ∧ Below W.heap.size W w' ∧ Hid (Wn w' sa z na c' fa a.num)) := fun W hW => cloneWn_c (HA.out.num.below hW) (by omega)
  have C2 : Hid (∀ W, Below w1.heap.size w1 W → Calls Tryz.prog 130 #[.slice ya ma da] W fun e w' => ∃ z c', e = .returned (.slice z ma c') ∧ Below W.heap.size W w' ∧ Hid (Wn w' false z ma c' ga (a.den : Int))) := fun W hW => cloneWn_c (HA.out.den.below hW) (by omega)
  go_region_held3 (fun w' => w'.cell? ⟨w.heap.size, 0, none⟩ = some (.bool sa) ∧ w'.cell? ⟨w.heap.size, 1, none⟩ = some (.slice xa na ca) ∧ w'.cell? ⟨w.heap.size, 2, none⟩ = some (.slice ya ma da) ∧ (w'.cell? ⟨w.heap.size + 1, 0, none⟩).isSome = true ∧ (w'.cell? ⟨w.heap.size + 1, 1, none⟩).isSome = true ∧ (w'.cell? ⟨w.heap.size + 1, 2, none⟩).isSome = true ∧ w'.frozen? ⟨w.heap.size + 1, 0, none⟩ = false ∧ w'.frozen? ⟨w.heap.size + 1, 1, none⟩ = false ∧ w'.frozen? ⟨w.heap.size + 1, 2, none⟩ = false)
    (refine ⟨?_, ?_, ?_, ?_, ?_, ?_, ?_, ?_, ?_⟩ <;> repeat (with_reducible first | assumption | exact zf _ | exact kI0 z0 | exact kI0 z1 | exact kI0 z2 | exact tf _ | exact kI0 t0 | exact kI0 t1 | exact kI0 t2 | exact uf _ | exact kI0 u0 | exact kI0 u1 | exact kI0 u2 | refine kCd ?_ | refine kId ?_ | refine kFd ?_ | refine kCs (by simp only [ne_eq]; omega) ?_ | refine kIs ?_ | refine kFs ?_ | refine kCb (by assumption) ?_ | refine kIb (by assumption) ?_))
    (first
      | (go_at_call 130; with_reducible refine (C1.out _ (by repeat (with_reducible first | assumption | exact Below.refl _ _ | refine Below.drew ?_ | refine kBa ?_ | refine kBb (by assumption) ?_))).mono ?_; rintro e w5 ⟨zp, cp, rfl, hb5, HP⟩; have TU : Ob w5 (w.heap.size + 1) := (by repeat (with_reducible first | exact OB | exact TU | exact TV | refine Ob.drew ?_ | refine kOb (by assumption) ?_)); obtain ⟨_, t0, t1, t2, tf⟩ := id TU)
      | (go_at_call 130; with_reducible refine (C2.out _ (by repeat (with_reducible first | assumption | exact Below.refl _ _ | refine Below.drew ?_ | refine kBa ?_ | refine kBb (by assumption) ?_))).mono ?_; rintro e w6 ⟨zq, cq, rfl, hb6, HQ⟩; have TV : Ob w6 (w.heap.size + 1) := (by repeat (with_reducible first | exact OB | exact TU | exact TV | refine Ob.drew ?_ | refine kOb (by assumption) ?_)); obtain ⟨_, u0, u1, u2, uf⟩ := id TV))
  have WA := HP.out.below hb6
  have hb : Below w1.heap.size w1 w6 := (by repeat (with_reducible first | assumption | exact Below.refl _ _ | refine Below.drew ?_ | refine kBa ?_ | refine kBb (by assumption) ?_))
  go_wp2
  exact bodyPost_ret (v := .agg #[.bool sa, .slice zp na cp, .slice zq ma cq]) (by simp [results, Tryz.results99, go_sem, u0, u1, u2]) rfl ⟨zp, cp, zq, cq, rfl, below_st (HW.out.trans (hb.mono HW.out.size)) (by omega), TV.wn WA, TV.wn HQ.out, b1, b2⟩

set_option maxRecDepth 100000 in
set_option maxHeartbeats 4000000 in
theorem rNeg_n {L : Nat} {w : World} {sa : Bool} {xa : Option Addr} {na ca : Nat} {fa : Nat → Int} {ya : Option Addr} {ma da : Nat} {ga : Nat → Int} {a : Rat} (ha : Rn L w sa xa na ca fa ya ma da ga a) (hL : L ≤ 1000) :
    Calls Tryz.prog 54 #[.agg #[.bool sa, .slice xa na ca, .slice ya ma da]] w fun e w' => RatTup L w w' e (-a) := by
  have HA0 := hid ha
  have b1 := ha.num.cap
  clear ha
  go_enter Tryz.func54, Tryz.ntmps54
  go_wp2_with fail
  refine (rForm_n ((HA0.out.alloc _).alloc _) (by omega)).mono ?_
  rintro e w1 ⟨rfl, hbel⟩
  have hbx := ((bx3_at w _ _ _ _).alloc _).below hbel
  have hob := (ob_new (w.alloc _) _).below hbel
  rw [size_alloc1] at hob
  have HW1 : Hid (Below w.heap.size w w1) := (below_alloc (below_alloc (Below.refl w.heap.size w) _) _).trans (hbel.mono (by simp; omega))
  have HA1 := hid (HA0.out.below HW1.out); have OB1 := hid hob
  clear hbel hob HA0
  obtain ⟨za, x0, x1, x2⟩ := hbx
  go_wp2_with fail
  refine (rCopy_n HA1.out hL).mono ?_
  rintro e w2 ⟨xp, cp, yp, dp, rfl, hb, hr⟩
  have RP2 := hid hr; have OB2 := hid (OB1.out.below hb); have HW2 := hid (HW1.out.trans (hb.mono HW1.out.size))
  clear hr hb OB1 HW1 HA1 za x0 x1 x2
  go_wp2_with fail
  refine (rsigned_c _ xp yp na cp ma dp _ (by omega)).mono ?_
  rintro e w3 ⟨rs, rfl, HRS, hb⟩
  have RP3 := hid (RP2.out.next hb); have OB3 := hid (OB2.out.next hb); have HW3 := hid ((below_alloc HW2.out _).trans (hb.mono (below_alloc HW2.out _).size))
  clear hb RP2 OB2 HW2
  obtain ⟨hz, z0, z1, z2, zf⟩ := OB3.out
  go_wp2
  exact bodyPost_ret (v := .tuple #[.agg #[.bool rs, .slice xp na cp, .slice yp ma dp], .int .i64 0]) (by simp [results, Tryz.results54, go_sem, z0, z1, z2]) rfl ⟨rs, xp, na, cp, fa, yp, ma, dp, ga, rfl, below_st HW3.out (by omega), OB3.out.rn (RP3.out.negate HRS.out)⟩
end Go.Proofs.YtclopblgdiahiaaGreatDoor
namespace Go.Proofs.YtclopblgdiahiaaGreatDoor
open Go.RowKit

/-- How two numbers lie to one another. -/
def ROrd (c : Int) (a b : Rat) : Prop := c = -1 ∧ a < b ∨ c = 0 ∧ a = b ∨ c = 1 ∧ b < a
theorem rord_of {c : Int} {a b : Rat} (h : Ord c (a.num * b.den) (b.num * a.den)) : ROrd c a b := by
  rcases h with ⟨h1, h2⟩ | ⟨h1, h2⟩ | ⟨h1, h2⟩
  · exact .inl ⟨h1, (Rat.lt_iff a b).2 h2⟩
  · refine .inr (.inl ⟨h1, Rat.le_antisymm ((Rat.le_iff a b).2 ?_) ((Rat.le_iff b a).2 ?_)⟩)
    · rw [h2]; exact Int.le_refl _
    · rw [h2]; exact Int.le_refl _
  · exact .inr (.inr ⟨h1, (Rat.lt_iff b a).2 h2⟩)
theorem prod_of {L : Nat} {w1 wx W5 w5 : World} {b4 : Nat} {r1 : Bool} {p1 : Option Addr} {k1 c1 n m : Nat} {q : Nat → Int} {v : Int} (hn : n ≤ L) (hm : m ≤ L) (hW : Below w1.heap.size w1 W5) (hD : WRes (n + m) W5 w5 r1 p1 k1 c1 q ∧ wv r1 q k1 = v) (hT : Turned w1.heap.size W5.heap.size w5 wx) (hb : Bx wx b4 r1 p1 k1 c1) : FlAt (2 * L) w1 wx b4 r1 p1 k1 c1 v := by
  have hQ := hD.1.res.turned hW hT
  have := hQ.le
  exact ⟨hb, hQ.bel, ⟨q, hQ.rd, hQ.lm, hD.1.wfB, hQ.ncap, hQ.nil', hD.2⟩, by omega⟩

set_option maxRecDepth 100000 in
set_option maxHeartbeats 8000000 in
theorem rCmp_n {L : Nat} {w : World} {sa : Bool} {xa : Option Addr} {na ca : Nat} {fa : Nat → Int} {ya : Option Addr} {ma da : Nat} {ga : Nat → Int} {a : Rat} {sb : Bool} {xb : Option Addr} {nb cb : Nat} {fb : Nat → Int} {yb : Option Addr} {mb db : Nat} {gb : Nat → Int} {b : Rat} (ha : Rn L w sa xa na ca fa ya ma da ga a) (hb : Rn L w sb xb nb cb fb yb mb db gb b) (hL : L ≤ 1000) :
    Calls Tryz.prog 70 #[.agg #[.bool sa, .slice xa na ca, .slice ya ma da], .agg #[.bool sb, .slice xb nb cb, .slice yb mb db]] w fun e w' => ∃ c, e = .returned (.tuple #[.int .i64 c, .int .i64 0]) ∧ Below w.heap.size w w' ∧ ROrd c a b := by
  have HA0 := hid ha; have HB0 := hid hb
  have b1 := ha.ln; have b2 := ha.ld; have b3 := hb.ln; have b4 := hb.ld
  clear ha hb
  go_enter Tryz.func70, Tryz.ntmps70
  go_wp2_with fail
  refine (rForm_n ((HA0.out.alloc _).alloc _) (by omega)).mono ?_
  rintro e w0 ⟨rfl, hbel⟩
  obtain ⟨ba, bb, hw⟩ := two_new hbel
  have BA0 := hid ba; have BB0 := hid bb; have HW0 := hid hw; have RA0 := hid (HA0.out.below hw); have RB0 := hid (HB0.out.below hw)
  clear hbel ba bb hw HA0 HB0
  obtain ⟨zb, y0, y1, y2⟩ := BB0.out
  go_wp2_with fail
  refine (rForm_n RB0.out (by omega)).mono ?_
  rintro e w1 ⟨rfl, hb⟩
  clear zb y0 y1 y2
  have BA1 := hid (BA0.out.below hb); have BB1 := hid (BB0.out.below hb); have RA1 := hid (RA0.out.below hb); have RB1 := hid (RB0.out.below hb); have HW1 := hid (HW0.out.trans (hb.mono HW0.out.size))
  clear BA0 BB0 RA0 RB0 HW0 hb
  obtain ⟨za, x0, x1, x2⟩ := BA1.out
  obtain ⟨zb, y0, y1, y2⟩ := BB1.out
  have C1 : Hid (∀ W, Below w1.heap.size w1 W → Calls Tryz.prog 92 #[.agg #[.bool sa, .slice xa na ca, .slice ya ma da]] W fun e w' => e = .returned (.agg #[.bool sa, .slice xa na ca]) ∧ Below W.heap.size W w') := fun W _ => numer_c sa xa ya na ca ma da W
  have C2 : Hid (∀ W, Below w1.heap.size w1 W → Calls Tryz.prog 93 #[.agg #[.bool sb, .slice xb nb cb, .slice yb mb db]] W fun e w' => e = .returned (.agg #[.bool false, .slice yb mb db]) ∧ Below W.heap.size W w') := fun W _ => denom_c sb xb yb nb cb mb db W
  have C3 : Hid (∀ W, Below w1.heap.size w1 W → Calls Tryz.prog 41 #[.agg #[.bool sa, .slice xa na ca], .agg #[.bool false, .slice yb mb db]] W fun e w' => ∃ r1 p1 k1 c1 q, e = .returned (.tuple #[.agg #[.bool r1, .slice p1 k1 c1], .int .i64 0]) ∧ Below W.heap.size W w' ∧ Hid (WRes (na + mb) W w' r1 p1 k1 c1 q ∧ wv r1 q k1 = a.num * b.den)) := fun W hW => by
    have h1 := (RA1.out.below hW).num; have h2 := (RB1.out.below hW).den
    refine (wMul_c sa false xa yb na mb ca db fa gb W (by omega) (by omega) h1.cap.1 h2.cap.1 h1.cap.2 h2.cap.2 h1.rd h2.rd h1.lm h2.lm).mono ?_
    rintro e w' ⟨r, z, k, e', h, er, rfl, hres, hans⟩
    obtain ⟨rfl, hv⟩ := hans.ok ⟨h1.wf, h2.wf⟩
    exact ⟨r, z, k, e', h, rfl, hres.res.bel, hres, by rw [hv, h1.val, h2.val]⟩
  go_upto_region 3 with fail
  go_cut [6, 7] from 18 to 25 (fun u t wx => ∃ (wy : World) (b4 : Nat) (s : Bool) (z : Option Addr) (k c : Nat), wy = wx ∧ u = .pointer (some ⟨b4, 0, none⟩) ∧ t = .int .i64 0 ∧ FlAt (2 * L) w1 wy b4 s z k c (a.num * b.den))
  case first =>
    go_region_held3 (fun w' => w'.cell? ⟨w.heap.size, 0, none⟩ = some (.bool sa) ∧ w'.cell? ⟨w.heap.size, 1, none⟩ = some (.slice xa na ca) ∧ w'.cell? ⟨w.heap.size, 2, none⟩ = some (.slice ya ma da) ∧ w'.cell? ⟨w.heap.size + 1, 0, none⟩ = some (.bool sb) ∧ w'.cell? ⟨w.heap.size + 1, 1, none⟩ = some (.slice xb nb cb) ∧ w'.cell? ⟨w.heap.size + 1, 2, none⟩ = some (.slice yb mb db))
      (refine ⟨?_, ?_, ?_, ?_, ?_, ?_⟩ <;> repeat (with_reducible first | assumption | refine kCd ?_ | refine kCa ?_ | refine kCs (by simp only [ne_eq]; omega) ?_ | refine kCb (by assumption) ?_))
      (first
        | (go_at_call 92; with_reducible refine (C1.out _ (by repeat (with_reducible first | assumption | exact Below.refl _ _ | refine Below.drew ?_ | refine kBa ?_ | refine kBb (by assumption) ?_))).mono ?_; rintro e v3 ⟨rfl, hb3⟩; have hza := hb3.size; (try simp at hza); obtain ⟨hc3, hf3⟩ := bcell hb3; (try have q100 : w1.heap.size < v3.heap.size := by omega))
        | (go_at_call 93; with_reducible refine (C2.out _ (by repeat (with_reducible first | assumption | exact Below.refl _ _ | refine Below.drew ?_ | refine kBa ?_ | refine kBb (by assumption) ?_))).mono ?_; rintro e v4 ⟨rfl, hb4⟩; have hzb := hb4.size; (try simp at hzb); obtain ⟨hc4, hf4⟩ := bcell hb4; (try have q100 : w1.heap.size < v4.heap.size := by omega); (try have q102 : v3.heap.size < v4.heap.size := by omega))
        | (go_at_call 41; with_reducible refine (C3.out _ (by repeat (with_reducible first | assumption | exact Below.refl _ _ | refine Below.drew ?_ | refine kBa ?_ | refine kBb (by assumption) ?_))).mono ?_; rintro e v5 ⟨r1, p1, k1, c1, q, rfl, hb5, HD⟩; have hzc := hb5.size; (try simp at hzc); obtain ⟨hc5, hf5⟩ := bcell hb5; (try have q100 : w1.heap.size < v5.heap.size := by omega); (try have q102 : v3.heap.size < v5.heap.size := by omega); (try have q104 : v4.heap.size < v5.heap.size := by omega)))
    all_goals
      go_wp2_with fail
      go_meet
      refine ⟨_, _, r1, p1, k1, c1, rfl, rfl, rfl, prod_of (by assumption) (by assumption) (by repeat (with_reducible first | assumption | exact Below.refl _ _ | refine Below.drew ?_ | refine kBa ?_ | refine kBb (by assumption) ?_)) HD.out (by repeat (with_reducible first | exact Turned.refl _ _ _ | refine Turned.drew ?_ | refine Turned.alloc ?_ _ | refine Turned.set ?_ (by first | omega | (simp; done) | (simp; omega)) (by first | omega | (simp; done) | (simp; omega)) _)) ⟨(by first | omega | (simp; done) | (simp; omega)), (by repeat (with_reducible first | assumption | exact kN0 | exact kN1 | (refine kM0 ?_; (simp <;> fail)) | (refine kM1 ?_; (simp <;> fail)) | exact kI0 kN0 | exact kI0 kN1 | (refine kI0 (kM0 ?_); (simp <;> fail)) | (refine kI0 (kM1 ?_); (simp <;> fail)) | refine kCd ?_ | refine kCe ?_ | refine kCo (by decide) ?_ | refine kCs (by simp only [ne_eq]; omega) ?_ | refine kCa ?_ | refine kCb (by assumption) ?_ | refine kId ?_ | refine kIs ?_ | refine kIa ?_ | refine kIb (by assumption) ?_)), (by repeat (with_reducible first | assumption | exact kN0 | exact kN1 | (refine kM0 ?_; (simp <;> fail)) | (refine kM1 ?_; (simp <;> fail)) | exact kI0 kN0 | exact kI0 kN1 | (refine kI0 (kM0 ?_); (simp <;> fail)) | (refine kI0 (kM1 ?_); (simp <;> fail)) | refine kCd ?_ | refine kCe ?_ | refine kCo (by decide) ?_ | refine kCs (by simp only [ne_eq]; omega) ?_ | refine kCa ?_ | refine kCb (by assumption) ?_ | refine kId ?_ | refine kIs ?_ | refine kIa ?_ | refine kIb (by assumption) ?_))⟩⟩
  case rest =>
    obtain ⟨w2, bX, sX, zX, kX, cX, rfl, rfl, rfl, hbx, hb, ⟨fX, hwn⟩, hleX⟩ := hcut
    have BX2 := hid hbx; have WX2 := hid hwn
    clear hbx hwn za zb x0 x1 x2 y0 y1 y2 C1 C2 C3
    have BA2 := hid (BA1.out.below hb); have BB2 := hid (BB1.out.below hb); have RA2 := hid (RA1.out.below hb); have RB2 := hid (RB1.out.below hb); have HW2 := hid (HW1.out.trans (hb.mono HW1.out.size))
    clear BA1 BB1 RA1 RB1 HW1 hb
    obtain ⟨za, x0, x1, x2⟩ := BA2.out
    obtain ⟨zb, y0, y1, y2⟩ := BB2.out
    have C1 : Hid (∀ W, Below w2.heap.size w2 W → Calls Tryz.prog 92 #[.agg #[.bool sb, .slice xb nb cb, .slice yb mb db]] W fun e w' => e = .returned (.agg #[.bool sb, .slice xb nb cb]) ∧ Below W.heap.size W w') := fun W _ => numer_c sb xb yb nb cb mb db W
    have C2 : Hid (∀ W, Below w2.heap.size w2 W → Calls Tryz.prog 93 #[.agg #[.bool sa, .slice xa na ca, .slice ya ma da]] W fun e w' => e = .returned (.agg #[.bool false, .slice ya ma da]) ∧ Below W.heap.size W w') := fun W _ => denom_c sa xa ya na ca ma da W
    have C3 : Hid (∀ W, Below w2.heap.size w2 W → Calls Tryz.prog 41 #[.agg #[.bool sb, .slice xb nb cb], .agg #[.bool false, .slice ya ma da]] W fun e w' => ∃ r1 p1 k1 c1 q, e = .returned (.tuple #[.agg #[.bool r1, .slice p1 k1 c1], .int .i64 0]) ∧ Below W.heap.size W w' ∧ Hid (WRes (nb + ma) W w' r1 p1 k1 c1 q ∧ wv r1 q k1 = b.num * a.den)) := fun W hW => by
      have h1 := (RB2.out.below hW).num; have h2 := (RA2.out.below hW).den
      refine (wMul_c sb false xb ya nb ma cb da fb ga W (by omega) (by omega) h1.cap.1 h2.cap.1 h1.cap.2 h2.cap.2 h1.rd h2.rd h1.lm h2.lm).mono ?_
      rintro e w' ⟨r, z, k, e', h, er, rfl, hres, hans⟩
      obtain ⟨rfl, hv⟩ := hans.ok ⟨h1.wf, h2.wf⟩
      exact ⟨r, z, k, e', h, rfl, hres.res.bel, hres, by rw [hv, h1.val, h2.val]⟩
    go_upto_region 4 with fail
    go_cut [8, 9] from 26 to 33 (fun u t wx => ∃ (wy : World) (b4 : Nat) (s : Bool) (z : Option Addr) (k c : Nat), wy = wx ∧ u = .pointer (some ⟨b4, 0, none⟩) ∧ t = .int .i64 0 ∧ FlAt (2 * L) w2 wy b4 s z k c (b.num * a.den))
    case first =>
      go_region_held3 (fun w' => w'.cell? ⟨w.heap.size, 0, none⟩ = some (.bool sa) ∧ w'.cell? ⟨w.heap.size, 1, none⟩ = some (.slice xa na ca) ∧ w'.cell? ⟨w.heap.size, 2, none⟩ = some (.slice ya ma da) ∧ w'.cell? ⟨w.heap.size + 1, 0, none⟩ = some (.bool sb) ∧ w'.cell? ⟨w.heap.size + 1, 1, none⟩ = some (.slice xb nb cb) ∧ w'.cell? ⟨w.heap.size + 1, 2, none⟩ = some (.slice yb mb db))
        (refine ⟨?_, ?_, ?_, ?_, ?_, ?_⟩ <;> repeat (with_reducible first | assumption | refine kCd ?_ | refine kCa ?_ | refine kCs (by simp only [ne_eq]; omega) ?_ | refine kCb (by assumption) ?_))
        (first
          | (go_at_call 92; with_reducible refine (C1.out _ (by repeat (with_reducible first | assumption | exact Below.refl _ _ | refine Below.drew ?_ | refine kBa ?_ | refine kBb (by assumption) ?_))).mono ?_; rintro e v3 ⟨rfl, hb3⟩; have hza := hb3.size; (try simp at hza); obtain ⟨hc3, hf3⟩ := bcell hb3; (try have q100 : w2.heap.size < v3.heap.size := by omega))
          | (go_at_call 93; with_reducible refine (C2.out _ (by repeat (with_reducible first | assumption | exact Below.refl _ _ | refine Below.drew ?_ | refine kBa ?_ | refine kBb (by assumption) ?_))).mono ?_; rintro e v4 ⟨rfl, hb4⟩; have hzb := hb4.size; (try simp at hzb); obtain ⟨hc4, hf4⟩ := bcell hb4; (try have q100 : w2.heap.size < v4.heap.size := by omega); (try have q102 : v3.heap.size < v4.heap.size := by omega))
          | (go_at_call 41; with_reducible refine (C3.out _ (by repeat (with_reducible first | assumption | exact Below.refl _ _ | refine Below.drew ?_ | refine kBa ?_ | refine kBb (by assumption) ?_))).mono ?_; rintro e v5 ⟨r1, p1, k1, c1, q, rfl, hb5, HD⟩; have hzc := hb5.size; (try simp at hzc); obtain ⟨hc5, hf5⟩ := bcell hb5; (try have q100 : w2.heap.size < v5.heap.size := by omega); (try have q102 : v3.heap.size < v5.heap.size := by omega); (try have q104 : v4.heap.size < v5.heap.size := by omega)))
      all_goals
        go_wp2_with fail
        go_meet
        refine ⟨_, _, r1, p1, k1, c1, rfl, rfl, rfl, prod_of (by assumption) (by assumption) (by repeat (with_reducible first | assumption | exact Below.refl _ _ | refine Below.drew ?_ | refine kBa ?_ | refine kBb (by assumption) ?_)) HD.out (by repeat (with_reducible first | exact Turned.refl _ _ _ | refine Turned.drew ?_ | refine Turned.alloc ?_ _ | refine Turned.set ?_ (by first | omega | (simp; done) | (simp; omega)) (by first | omega | (simp; done) | (simp; omega)) _)) ⟨(by first | omega | (simp; done) | (simp; omega)), (by repeat (with_reducible first | assumption | exact kN0 | exact kN1 | (refine kM0 ?_; (simp <;> fail)) | (refine kM1 ?_; (simp <;> fail)) | exact kI0 kN0 | exact kI0 kN1 | (refine kI0 (kM0 ?_); (simp <;> fail)) | (refine kI0 (kM1 ?_); (simp <;> fail)) | refine kCd ?_ | refine kCe ?_ | refine kCo (by decide) ?_ | refine kCs (by simp only [ne_eq]; omega) ?_ | refine kCa ?_ | refine kCb (by assumption) ?_ | refine kId ?_ | refine kIs ?_ | refine kIa ?_ | refine kIb (by assumption) ?_)), (by repeat (with_reducible first | assumption | exact kN0 | exact kN1 | (refine kM0 ?_; (simp <;> fail)) | (refine kM1 ?_; (simp <;> fail)) | exact kI0 kN0 | exact kI0 kN1 | (refine kI0 (kM0 ?_); (simp <;> fail)) | (refine kI0 (kM1 ?_); (simp <;> fail)) | refine kCd ?_ | refine kCe ?_ | refine kCo (by decide) ?_ | refine kCs (by simp only [ne_eq]; omega) ?_ | refine kCa ?_ | refine kCb (by assumption) ?_ | refine kId ?_ | refine kIs ?_ | refine kIa ?_ | refine kIb (by assumption) ?_))⟩⟩
    case rest =>
      obtain ⟨w3, bY, sY, zY, kY, cY, rfl, rfl, rfl, hby, hb, ⟨fY, hwy⟩, hleY⟩ := hcut
      have BY3 := hid hby; have WY3 := hid hwy
      clear hby hwy za zb x0 x1 x2 y0 y1 y2 C1 C2 C3
      have BX3 := hid (BX2.out.below hb); have WX3 := hid (WX2.out.below hb); have HW3 := hid (HW2.out.trans (hb.mono HW2.out.size))
      clear BX2 WX2 HW2 hb
      obtain ⟨zx, x0, x1⟩ := BX3.out
      obtain ⟨zy, y0, y1⟩ := BY3.out
      go_wp2_with fail
      refine (wCmp_c sX sY zX zY kX kY cX cY fX fY _ (by omega) (by omega) WX3.out.rd WY3.out.rd WX3.out.lm WY3.out.lm).mono ?_
      rintro e w4 ⟨cc, er, rfl, hb, hcm⟩
      have hcc : er = 0 ∧ ROrd cc a b := by
        rcases hcm with ⟨_, h1, h2⟩ | ⟨h1, _⟩
        · rw [WX3.out.val, WY3.out.val] at h2
          exact ⟨h1, rord_of h2⟩
        · exact absurd ⟨WX3.out.wf, WY3.out.wf⟩ h1
      obtain ⟨rfl, hord⟩ := hcc
      have HO := hid hord; have HW4 := hid (HW3.out.trans (hb.mono HW3.out.size))
      clear hcm hord hb
      go_wp2
      go_ret2
      exact ⟨cc, rfl, HW4.out, HO.out⟩
end Go.Proofs.YtclopblgdiahiaaGreatDoor
namespace Go.Proofs.YtclopblgdiahiaaGreatDoor
open Go.RowKit

theorem rfrac {v : Int} {s : Bool} {D : Nat} (hv : v = sg s v.natAbs) (hD : 0 < D) :
    ((v : Rat) / ((D : Int) : Rat)).num = sg s (v.natAbs / v.natAbs.gcd D) ∧ ((v : Rat) / ((D : Int) : Rat)).den = D / v.natAbs.gcd D := by
  have hG : 0 < v.natAbs.gcd D := Nat.gcd_pos_of_pos_right _ hD
  have e1 : v.natAbs / v.natAbs.gcd D * v.natAbs.gcd D = v.natAbs := Nat.div_mul_cancel (Nat.gcd_dvd_left _ _)
  have e2 : D / v.natAbs.gcd D * v.natAbs.gcd D = D := Nat.div_mul_cancel (Nat.gcd_dvd_right _ _)
  have h := rmake (s := s) (t := false) (NA := v.natAbs / v.natAbs.gcd D) (NB := D / v.natAbs.gcd D) (G := v.natAbs.gcd D) (by rw [e2]; exact hD) (by rw [e1, e2])
  rw [e1, e2, ← hv] at h
  simpa [sg] using h
theorem radd_frac (a b : Rat) : a + b = ((a.num * b.den + b.num * a.den : Int) : Rat) / (((a.den * b.den : Nat) : Int) : Rat) := by
  have ha : (a.den : Int) ≠ 0 := by have := a.den_pos; omega
  have hb : (b.den : Int) ≠ 0 := by have := b.den_pos; omega
  have h := Rat.divInt_add_divInt a.num b.num ha hb
  rw [Rat.num_divInt_den, Rat.num_divInt_den] at h
  rw [h, Rat.divInt_eq_div]
  simp
theorem rmul_frac (a b : Rat) : a * b = ((a.num * b.num : Int) : Rat) / (((a.den * b.den : Nat) : Int) : Rat) := by
  have h := Rat.divInt_mul_divInt a.num b.num (d₁ := a.den) (d₂ := b.den)
  rw [Rat.num_divInt_den, Rat.num_divInt_den] at h
  rw [h, Rat.divInt_eq_div]
  simp
theorem sub_ord {c : Int} {a b : Rat} (h : Ord c (a - b).num 0) : ROrd c a b := by
  rcases h with ⟨h1, h2⟩ | ⟨h1, h2⟩ | ⟨h1, h2⟩
  · left; refine ⟨h1, ?_⟩
    have : a - b < 0 := (Rat.lt_iff _ _).2 (by simp; exact h2)
    grind
  · right; left; refine ⟨h1, ?_⟩
    have : a - b = 0 := Rat.num_eq_zero.1 h2
    grind
  · right; right; refine ⟨h1, ?_⟩
    have : 0 < a - b := (Rat.lt_iff _ _).2 (by simp; exact h2)
    grind
theorem qbox2 {w : World} (a0 a1 a2 b0 b1 b2 : Value) (t : TypeId) :
    Bx3 (((w.alloc (.cells #[a0, a1, a2] t)).alloc (.cells #[b0, b1, b2] t)).alloc (.cells #[.bool false, .slice none 0 0, .slice none 0 0] t)) w.heap.size a0 a1 a2 ∧ Bx3 (((w.alloc (.cells #[a0, a1, a2] t)).alloc (.cells #[b0, b1, b2] t)).alloc (.cells #[.bool false, .slice none 0 0, .slice none 0 0] t)) (w.heap.size + 1) b0 b1 b2 ∧ Ob (((w.alloc (.cells #[a0, a1, a2] t)).alloc (.cells #[b0, b1, b2] t)).alloc (.cells #[.bool false, .slice none 0 0, .slice none 0 0] t)) (w.heap.size + 1 + 1) ∧ Below w.heap.size w (((w.alloc (.cells #[a0, a1, a2] t)).alloc (.cells #[b0, b1, b2] t)).alloc (.cells #[.bool false, .slice none 0 0, .slice none 0 0] t)) := by
  have h1 := bx3_at w a0 a1 a2 t
  have h2 := bx3_at (w.alloc (.cells #[a0, a1, a2] t)) b0 b1 b2 t
  rw [size_alloc1] at h2
  have h3 := ob_new ((w.alloc (.cells #[a0, a1, a2] t)).alloc (.cells #[b0, b1, b2] t)) t
  rw [size_alloc1, size_alloc1] at h3
  exact ⟨(h1.alloc _).alloc _, h2.alloc _, h3, below_alloc (below_alloc (below_alloc (Below.refl w.heap.size w) _) _) _⟩
theorem mkZn_c {w : World} {z : Option Addr} {k c : Nat} {d : Nat → Int} {V : Nat} (h : Dn w z k d V) (hk : k ≤ 100000) :
    Calls Tryz.prog 128 #[.bool false, .slice z k c] w fun e w' => ∃ r, e = .returned (.agg #[.bool r, .slice z k c]) ∧ Below w.heap.size w w' ∧ Hid (Zn w' r z k d (V : Int)) :=
  (mkZ_c hk).mono (fun _ _ ⟨r, h1, h2, h3⟩ => ⟨r, h1, h2, Zn.of (s := false) (h.below h2) h3⟩)
/-- Mk, on a whole number over one above 0. -/
theorem mkQn_c {w : World} {s : Bool} {x : Option Addr} {n c : Nat} {d : Nat → Int} {v : Int} {y : Option Addr} {m e : Nat} {g : Nat → Int} {D : Nat} (ha : Zn w s x n d v) (hb : Dn w y m g D) (hn : n ≤ 4096) (hm : m ≤ 4096) (hD : 0 < D) :
    Calls Tryz.prog 127 #[.agg #[.bool s, .slice x n c], .slice y m e] w fun en w' => ∃ s' x' n' c1 d' y' m' c2 g', en = .returned (.agg #[.bool s', .slice x' n' c1, .slice y' m' c2]) ∧ Below w.heap.size w w' ∧ Hid (n' ≤ n + 2 ∧ m' ≤ m + 2 ∧ Qn w' s' x' n' d' y' m' g' ((v : Rat) / ((D : Int) : Rat))) := by
  refine (mkQ_c ha.dn hb ha.pos hn hm hD).mono ?_
  rintro en w' ⟨r, z, k, c', d', z2, k2, c2, d2, rfl, h2, h3, h4, h5, h6, h7⟩
  obtain ⟨e1, e2⟩ := rfrac ha.sgn hD
  have hz := Zn.of h6 h5
  rw [← e1] at hz
  rw [← e2] at h7
  exact ⟨r, z, k, c', d', z2, k2, c2, d2, rfl, h2, h3, h4, hz, h7⟩

end Go.Proofs.YtclopblgdiahiaaGreatDoor
namespace Go.Proofs.YtclopblgdiahiaaGreatDoor
open Go.RowKit

/-- What Sign answers. -/
def SG (c er : Int) (p : Bool) (v : Int) : Prop := p = true ∧ er = 0 ∧ Ord c v 0 ∨ p = false ∧ er = 3 ∧ c = 0
theorem rf_wf {s f n g m} (h : rfB s f n g m = true) : wfB s f n = true := by
  simp only [rfB, Bool.and_eq_true] at h
  exact h.1

set_option maxRecDepth 100000 in
set_option maxHeartbeats 4000000 in
theorem rCmpErr_c {w : World} {sa : Bool} {xa : Option Addr} {na ca : Nat} {fa : Nat → Int} {ya : Option Addr} {ma ea : Nat} {ga : Nat → Int} {sb : Bool} {xb : Option Addr} {nb cb : Nat} {fb : Nat → Int} {yb : Option Addr} {mb eb : Nat} {gb : Nat → Int} (ha : Rw w xa na ca fa ya ma ea ga) (hb : Rw w xb nb cb fb yb mb eb gb) (hna : na ≤ 1000) (hma : ma ≤ 1000) (hnb : nb ≤ 1000) (hmb : mb ≤ 1000) (hp : (rfB sa fa na ga ma && rfB sb fb nb gb mb) = false) :
    Calls Tryz.prog 70 #[.agg #[.bool sa, .slice xa na ca, .slice ya ma ea], .agg #[.bool sb, .slice xb nb cb, .slice yb mb eb]] w fun en w' => en = .returned (.tuple #[.int .i64 0, .int .i64 3]) ∧ Below w.heap.size w w' := by
  have h1 := (bx3_at w (.bool sa) (.slice xa na ca) (.slice ya ma ea) 32).alloc (.cells #[.bool sb, .slice xb nb cb, .slice yb mb eb] 32)
  have h2 := bx3_at (w.alloc (.cells #[.bool sa, .slice xa na ca, .slice ya ma ea] 32)) (.bool sb) (.slice xb nb cb) (.slice yb mb eb) 32
  rw [size_alloc1] at h2
  have h4 := below_alloc (below_alloc (Below.refl w.heap.size w) (.cells #[.bool sa, .slice xa na ca, .slice ya ma ea] 32)) (.cells #[.bool sb, .slice xb nb cb, .slice yb mb eb] 32)
  have h5 := ha.below h4
  have h6 := hb.below h4
  clear ha hb
  go_enter Tryz.func70, Tryz.ntmps70
  go_wp2_with fail
  generalize (w.alloc (.cells #[.bool sa, .slice xa na ca, .slice ya ma ea] 32)).alloc (.cells #[.bool sb, .slice xb nb cb, .slice yb mb eb] 32) = w1 at *
  have HRA := hid h5; have HRB := hid h6; have HW := hid h4; have BA := hid h1; have BB := hid h2
  clear h1 h2 h4 h5 h6
  have c1 := rForm_c (s := sa) HRA.out (by omega) (by omega)
  cases h1 : rfB sa fa na ga ma
  · rw [h1] at c1
    refine c1.mono ?_
    rintro en w2 ⟨rfl, hb⟩
    have HB := hid (HW.out.trans (hb.mono HW.out.size))
    clear c1 hb hp
    go_wp2
    go_ret2
    exact ⟨rfl, HB.out⟩
  rw [h1] at c1
  refine c1.mono ?_
  rintro en w2 ⟨rfl, hb⟩
  have h2 : rfB sb fb nb gb mb = false := by rw [h1] at hp; simpa using hp
  have HB2 := hid hb
  clear c1 hb hp h1
  obtain ⟨zb, b0, b1, b2⟩ := BB.out.below HB2.out
  have c2 := rForm_c (s := sb) (HRB.out.below HB2.out) (by omega) (by omega)
  rw [h2] at c2
  go_wp2_with fail
  refine c2.mono ?_
  rintro en w3 ⟨rfl, hb⟩
  have HB3 := hid (HW.out.trans ((HB2.out.trans (hb.mono HB2.out.size)).mono HW.out.size))
  clear c2 hb h2
  go_wp2
  go_ret2
  exact ⟨rfl, HB3.out⟩

end Go.Proofs.YtclopblgdiahiaaGreatDoor
namespace Go.Proofs.YtclopblgdiahiaaGreatDoor
open Go.RowKit

theorem rquo_frac {a b : Rat} {s t : Bool} (ha : a.num = sg s a.num.natAbs) (hb : b.num = sg t b.num.natAbs) (h0 : 0 < b.num.natAbs) : a / b = ((sg (!(s == t)) (a.num.natAbs * b.den) : Int) : Rat) / (((a.den * b.num.natAbs : Nat) : Int) : Rat) := by
  obtain ⟨e1, e2⟩ := rinv hb h0
  rw [Rat.div_def, rmul_frac, e1, e2]
  have e3 : a.num * sg t b.den = sg (s != t) (a.num.natAbs * b.den) := by
    have := sg_mul s t a.num.natAbs b.den
    rw [← ha] at this; exact this
  rw [e3]
  have e4 : (s != t) = !(s == t) := by cases s <;> cases t <;> rfl
  rw [e4]

/-- To, on a rational number of the reference. -/
theorem qToR_c {w : World} {s : Bool} {x : Option Addr} {n c : Nat} {d : Nat → Int} {y : Option Addr} {m e : Nat} {g : Nat → Int} {q : Rat} (h : Qn w s x n d y m g q) (hn : n ≤ 4096) (hm : m ≤ 4096) :
    Calls Tryz.prog 100 #[.agg #[.bool s, .slice x n c, .slice y m e]] w fun en w' => ∃ z k c' f z2 k2 c2 f2, en = .returned (.agg #[.bool s, .slice z k c', .slice z2 k2 c2]) ∧ Below w.heap.size w w' ∧ Hid (Rn (n + m) w' s z k c' f z2 k2 c2 f2 q) := by
  refine (qTo_c h.num.dn h.den hn hm).mono ?_
  rintro en w' ⟨z, k, c', f, z2, k2, c2, f2, rfl, h2, h3, h4, h5, h6, _, _⟩
  refine ⟨z, k, c', f, z2, k2, c2, f2, rfl, h2, ⟨h5.rd, h5.lm, (wfB_iff _ _ _).2 ⟨fm_of_wfB h5.wf, fun hs => ?_⟩, h5.cap, h5.nil, ?_⟩, h6, by omega, by omega⟩
  · have h0 := h.num.dn.pos' (h.num.pos hs)
    rcases Nat.eq_zero_or_pos k with hk | hk
    · subst hk
      have hv := h5.val
      rw [wv_false] at hv
      have : (0 : Int) = q.num.natAbs := hv
      omega
    · exact hk
  · have hv := h5.val
    rw [wv_false] at hv
    have hs := h.num.sgn
    cases s
    · rw [wv_false, hv]; exact hs.symm
    · rw [wv_true, hv]; exact hs.symm
end Go.Proofs.YtclopblgdiahiaaGreatDoor
namespace Go.Proofs.YtclopblgdiahiaaGreatDoor
open Go.RowKit

set_option maxRecDepth 100000 in
set_option maxHeartbeats 4000000 in
theorem rAddErr_c {w : World} {sa : Bool} {xa : Option Addr} {na ca : Nat} {fa : Nat → Int} {ya : Option Addr} {ma ea : Nat} {ga : Nat → Int} {sb : Bool} {xb : Option Addr} {nb cb : Nat} {fb : Nat → Int} {yb : Option Addr} {mb eb : Nat} {gb : Nat → Int} (ha : Rw w xa na ca fa ya ma ea ga) (hb : Rw w xb nb cb fb yb mb eb gb) (hna : na ≤ 1000) (hma : ma ≤ 1000) (hnb : nb ≤ 1000) (hmb : mb ≤ 1000) (hp : (rfB sa fa na ga ma && rfB sb fb nb gb mb) = false) :
    Calls Tryz.prog 45 #[.agg #[.bool sa, .slice xa na ca, .slice ya ma ea], .agg #[.bool sb, .slice xb nb cb, .slice yb mb eb]] w fun en w' => en = .returned (.tuple #[.agg #[.bool false, .slice none 0 0, .slice none 0 0], .int .i64 3]) ∧ Below w.heap.size w w' := by
  obtain ⟨h1, h2, h3, h4⟩ := qbox2 (w := w) (.bool sa) (.slice xa na ca) (.slice ya ma ea) (.bool sb) (.slice xb nb cb) (.slice yb mb eb) 32
  have h5 := ha.below h4
  have h6 := hb.below h4
  clear ha hb
  go_enter Tryz.func45, Tryz.ntmps45
  go_wp2_with fail
  generalize ((w.alloc (.cells #[.bool sa, .slice xa na ca, .slice ya ma ea] 32)).alloc (.cells #[.bool sb, .slice xb nb cb, .slice yb mb eb] 32)).alloc (.cells #[.bool false, .slice none 0 0, .slice none 0 0] 32) = w1 at *
  have HRA := hid h5; have HRB := hid h6; have HW := hid h4; have BA := hid h1; have BB := hid h2; have OB := hid h3
  clear h1 h2 h3 h4 h5 h6
  have c1 := rForm_c (s := sa) HRA.out (by omega) (by omega)
  cases h1 : rfB sa fa na ga ma
  · rw [h1] at c1
    refine c1.mono ?_
    rintro en w2 ⟨rfl, hb⟩
    have HB := hid (HW.out.trans (hb.mono HW.out.size))
    obtain ⟨hz, z0, z1, z2, zf⟩ := OB.out.below hb
    clear c1 hb hp
    go_wp2
    exact bodyPost_ret (v := .tuple #[.agg #[.bool false, .slice none 0 0, .slice none 0 0], .int .i64 3]) (by simp [results, Tryz.results45, go_sem, z0, z1, z2]) rfl ⟨rfl, below_st HB.out (by omega)⟩
  rw [h1] at c1
  refine c1.mono ?_
  rintro en w2 ⟨rfl, hb⟩
  have h2 : rfB sb fb nb gb mb = false := by rw [h1] at hp; simpa using hp
  have HB2 := hid hb
  clear c1 hb hp h1
  obtain ⟨zb, b0, b1, b2⟩ := BB.out.below HB2.out
  have c2 := rForm_c (s := sb) (HRB.out.below HB2.out) (by omega) (by omega)
  rw [h2] at c2
  go_wp2_with fail
  refine c2.mono ?_
  rintro en w3 ⟨rfl, hb⟩
  have HB3 := hid (HB2.out.trans (hb.mono HB2.out.size))
  have HB := hid (HW.out.trans (HB3.out.mono HW.out.size))
  obtain ⟨hz, z0, z1, z2, zf⟩ := OB.out.below HB3.out
  clear c2 hb h2 zb b0 b1 b2
  go_wp2
  exact bodyPost_ret (v := .tuple #[.agg #[.bool false, .slice none 0 0, .slice none 0 0], .int .i64 3]) (by simp [results, Tryz.results45, go_sem, z0, z1, z2]) rfl ⟨rfl, below_st HB.out (by omega)⟩

set_option maxRecDepth 100000 in
set_option maxHeartbeats 4000000 in
theorem rSubErr_c {w : World} {sa : Bool} {xa : Option Addr} {na ca : Nat} {fa : Nat → Int} {ya : Option Addr} {ma ea : Nat} {ga : Nat → Int} {sb : Bool} {xb : Option Addr} {nb cb : Nat} {fb : Nat → Int} {yb : Option Addr} {mb eb : Nat} {gb : Nat → Int} (ha : Rw w xa na ca fa ya ma ea ga) (hb : Rw w xb nb cb fb yb mb eb gb) (hna : na ≤ 1000) (hma : ma ≤ 1000) (hnb : nb ≤ 1000) (hmb : mb ≤ 1000) (hp : (rfB sa fa na ga ma && rfB sb fb nb gb mb) = false) :
    Calls Tryz.prog 51 #[.agg #[.bool sa, .slice xa na ca, .slice ya ma ea], .agg #[.bool sb, .slice xb nb cb, .slice yb mb eb]] w fun en w' => en = .returned (.tuple #[.agg #[.bool false, .slice none 0 0, .slice none 0 0], .int .i64 3]) ∧ Below w.heap.size w w' := by
  obtain ⟨h1, h2, h3, h4⟩ := qbox2 (w := w) (.bool sa) (.slice xa na ca) (.slice ya ma ea) (.bool sb) (.slice xb nb cb) (.slice yb mb eb) 32
  have h5 := ha.below h4
  have h6 := hb.below h4
  clear ha hb
  go_enter Tryz.func51, Tryz.ntmps51
  go_wp2_with fail
  generalize ((w.alloc (.cells #[.bool sa, .slice xa na ca, .slice ya ma ea] 32)).alloc (.cells #[.bool sb, .slice xb nb cb, .slice yb mb eb] 32)).alloc (.cells #[.bool false, .slice none 0 0, .slice none 0 0] 32) = w1 at *
  have HRA := hid h5; have HRB := hid h6; have HW := hid h4; have BA := hid h1; have BB := hid h2; have OB := hid h3
  clear h1 h2 h3 h4 h5 h6
  have c1 := rForm_c (s := sa) HRA.out (by omega) (by omega)
  cases h1 : rfB sa fa na ga ma
  · rw [h1] at c1
    refine c1.mono ?_
    rintro en w2 ⟨rfl, hb⟩
    have HB := hid (HW.out.trans (hb.mono HW.out.size))
    obtain ⟨hz, z0, z1, z2, zf⟩ := OB.out.below hb
    clear c1 hb hp
    go_wp2
    exact bodyPost_ret (v := .tuple #[.agg #[.bool false, .slice none 0 0, .slice none 0 0], .int .i64 3]) (by simp [results, Tryz.results51, go_sem, z0, z1, z2]) rfl ⟨rfl, below_st HB.out (by omega)⟩
  rw [h1] at c1
  refine c1.mono ?_
  rintro en w2 ⟨rfl, hb⟩
  have h2 : rfB sb fb nb gb mb = false := by rw [h1] at hp; simpa using hp
  have HB2 := hid hb
  clear c1 hb hp h1
  obtain ⟨zb, b0, b1, b2⟩ := BB.out.below HB2.out
  have c2 := rForm_c (s := sb) (HRB.out.below HB2.out) (by omega) (by omega)
  rw [h2] at c2
  go_wp2_with fail
  refine c2.mono ?_
  rintro en w3 ⟨rfl, hb⟩
  have HB3 := hid (HB2.out.trans (hb.mono HB2.out.size))
  have HB := hid (HW.out.trans (HB3.out.mono HW.out.size))
  obtain ⟨hz, z0, z1, z2, zf⟩ := OB.out.below HB3.out
  clear c2 hb h2 zb b0 b1 b2
  go_wp2
  exact bodyPost_ret (v := .tuple #[.agg #[.bool false, .slice none 0 0, .slice none 0 0], .int .i64 3]) (by simp [results, Tryz.results51, go_sem, z0, z1, z2]) rfl ⟨rfl, below_st HB.out (by omega)⟩

set_option maxRecDepth 100000 in
set_option maxHeartbeats 4000000 in
theorem rMulErr_c {w : World} {sa : Bool} {xa : Option Addr} {na ca : Nat} {fa : Nat → Int} {ya : Option Addr} {ma ea : Nat} {ga : Nat → Int} {sb : Bool} {xb : Option Addr} {nb cb : Nat} {fb : Nat → Int} {yb : Option Addr} {mb eb : Nat} {gb : Nat → Int} (ha : Rw w xa na ca fa ya ma ea ga) (hb : Rw w xb nb cb fb yb mb eb gb) (hna : na ≤ 1000) (hma : ma ≤ 1000) (hnb : nb ≤ 1000) (hmb : mb ≤ 1000) (hp : (rfB sa fa na ga ma && rfB sb fb nb gb mb) = false) :
    Calls Tryz.prog 52 #[.agg #[.bool sa, .slice xa na ca, .slice ya ma ea], .agg #[.bool sb, .slice xb nb cb, .slice yb mb eb]] w fun en w' => en = .returned (.tuple #[.agg #[.bool false, .slice none 0 0, .slice none 0 0], .int .i64 3]) ∧ Below w.heap.size w w' := by
  obtain ⟨h1, h2, h3, h4⟩ := qbox2 (w := w) (.bool sa) (.slice xa na ca) (.slice ya ma ea) (.bool sb) (.slice xb nb cb) (.slice yb mb eb) 32
  have h5 := ha.below h4
  have h6 := hb.below h4
  clear ha hb
  go_enter Tryz.func52, Tryz.ntmps52
  go_wp2_with fail
  generalize ((w.alloc (.cells #[.bool sa, .slice xa na ca, .slice ya ma ea] 32)).alloc (.cells #[.bool sb, .slice xb nb cb, .slice yb mb eb] 32)).alloc (.cells #[.bool false, .slice none 0 0, .slice none 0 0] 32) = w1 at *
  have HRA := hid h5; have HRB := hid h6; have HW := hid h4; have BA := hid h1; have BB := hid h2; have OB := hid h3
  clear h1 h2 h3 h4 h5 h6
  have c1 := rForm_c (s := sa) HRA.out (by omega) (by omega)
  cases h1 : rfB sa fa na ga ma
  · rw [h1] at c1
    refine c1.mono ?_
    rintro en w2 ⟨rfl, hb⟩
    have HB := hid (HW.out.trans (hb.mono HW.out.size))
    obtain ⟨hz, z0, z1, z2, zf⟩ := OB.out.below hb
    clear c1 hb hp
    go_wp2
    exact bodyPost_ret (v := .tuple #[.agg #[.bool false, .slice none 0 0, .slice none 0 0], .int .i64 3]) (by simp [results, Tryz.results52, go_sem, z0, z1, z2]) rfl ⟨rfl, below_st HB.out (by omega)⟩
  rw [h1] at c1
  refine c1.mono ?_
  rintro en w2 ⟨rfl, hb⟩
  have h2 : rfB sb fb nb gb mb = false := by rw [h1] at hp; simpa using hp
  have HB2 := hid hb
  clear c1 hb hp h1
  obtain ⟨zb, b0, b1, b2⟩ := BB.out.below HB2.out
  have c2 := rForm_c (s := sb) (HRB.out.below HB2.out) (by omega) (by omega)
  rw [h2] at c2
  go_wp2_with fail
  refine c2.mono ?_
  rintro en w3 ⟨rfl, hb⟩
  have HB3 := hid (HB2.out.trans (hb.mono HB2.out.size))
  have HB := hid (HW.out.trans (HB3.out.mono HW.out.size))
  obtain ⟨hz, z0, z1, z2, zf⟩ := OB.out.below HB3.out
  clear c2 hb h2 zb b0 b1 b2
  go_wp2
  exact bodyPost_ret (v := .tuple #[.agg #[.bool false, .slice none 0 0, .slice none 0 0], .int .i64 3]) (by simp [results, Tryz.results52, go_sem, z0, z1, z2]) rfl ⟨rfl, below_st HB.out (by omega)⟩

set_option maxRecDepth 100000 in
set_option maxHeartbeats 4000000 in
theorem rQuoErr_c {w : World} {sa : Bool} {xa : Option Addr} {na ca : Nat} {fa : Nat → Int} {ya : Option Addr} {ma ea : Nat} {ga : Nat → Int} {sb : Bool} {xb : Option Addr} {nb cb : Nat} {fb : Nat → Int} {yb : Option Addr} {mb eb : Nat} {gb : Nat → Int} (ha : Rw w xa na ca fa ya ma ea ga) (hb : Rw w xb nb cb fb yb mb eb gb) (hna : na ≤ 1000) (hma : ma ≤ 1000) (hnb : nb ≤ 1000) (hmb : mb ≤ 1000) (hp : (rfB sa fa na ga ma && rfB sb fb nb gb mb) = false) :
    Calls Tryz.prog 53 #[.agg #[.bool sa, .slice xa na ca, .slice ya ma ea], .agg #[.bool sb, .slice xb nb cb, .slice yb mb eb]] w fun en w' => en = .returned (.tuple #[.agg #[.bool false, .slice none 0 0, .slice none 0 0], .int .i64 3]) ∧ Below w.heap.size w w' := by
  obtain ⟨h1, h2, h3, h4⟩ := qbox2 (w := w) (.bool sa) (.slice xa na ca) (.slice ya ma ea) (.bool sb) (.slice xb nb cb) (.slice yb mb eb) 32
  have h5 := ha.below h4
  have h6 := hb.below h4
  clear ha hb
  go_enter Tryz.func53, Tryz.ntmps53
  go_wp2_with fail
  generalize ((w.alloc (.cells #[.bool sa, .slice xa na ca, .slice ya ma ea] 32)).alloc (.cells #[.bool sb, .slice xb nb cb, .slice yb mb eb] 32)).alloc (.cells #[.bool false, .slice none 0 0, .slice none 0 0] 32) = w1 at *
  have HRA := hid h5; have HRB := hid h6; have HW := hid h4; have BA := hid h1; have BB := hid h2; have OB := hid h3
  clear h1 h2 h3 h4 h5 h6
  have c1 := rForm_c (s := sa) HRA.out (by omega) (by omega)
  cases h1 : rfB sa fa na ga ma
  · rw [h1] at c1
    refine c1.mono ?_
    rintro en w2 ⟨rfl, hb⟩
    have HB := hid (HW.out.trans (hb.mono HW.out.size))
    obtain ⟨hz, z0, z1, z2, zf⟩ := OB.out.below hb
    clear c1 hb hp
    go_wp2
    exact bodyPost_ret (v := .tuple #[.agg #[.bool false, .slice none 0 0, .slice none 0 0], .int .i64 3]) (by simp [results, Tryz.results53, go_sem, z0, z1, z2]) rfl ⟨rfl, below_st HB.out (by omega)⟩
  rw [h1] at c1
  refine c1.mono ?_
  rintro en w2 ⟨rfl, hb⟩
  have h2 : rfB sb fb nb gb mb = false := by rw [h1] at hp; simpa using hp
  have HB2 := hid hb
  clear c1 hb hp h1
  obtain ⟨zb, b0, b1, b2⟩ := BB.out.below HB2.out
  have c2 := rForm_c (s := sb) (HRB.out.below HB2.out) (by omega) (by omega)
  rw [h2] at c2
  go_wp2_with fail
  refine c2.mono ?_
  rintro en w3 ⟨rfl, hb⟩
  have HB3 := hid (HB2.out.trans (hb.mono HB2.out.size))
  have HB := hid (HW.out.trans (HB3.out.mono HW.out.size))
  obtain ⟨hz, z0, z1, z2, zf⟩ := OB.out.below HB3.out
  clear c2 hb h2 zb b0 b1 b2
  go_wp2
  exact bodyPost_ret (v := .tuple #[.agg #[.bool false, .slice none 0 0, .slice none 0 0], .int .i64 3]) (by simp [results, Tryz.results53, go_sem, z0, z1, z2]) rfl ⟨rfl, below_st HB.out (by omega)⟩

set_option maxRecDepth 100000 in
set_option maxHeartbeats 4000000 in
theorem rNegErr_c {w : World} {s : Bool} {x : Option Addr} {n c : Nat} {f : Nat → Int} {y : Option Addr} {m e : Nat} {g : Nat → Int} (h : Rw w x n c f y m e g) (hn : n ≤ 1000) (hm : m ≤ 1000) (hp : rfB s f n g m = false) :
    Calls Tryz.prog 54 #[.agg #[.bool s, .slice x n c, .slice y m e]] w fun en w' => en = .returned (.tuple #[.agg #[.bool false, .slice none 0 0, .slice none 0 0], .int .i64 3]) ∧ Below w.heap.size w w' := by
  obtain ⟨h1, h2, h3⟩ := qbox1 (w := w) (.bool s) (.slice x n c) (.slice y m e) 32 32
  have h5 := h.below h3
  clear h
  go_enter Tryz.func54, Tryz.ntmps54
  go_wp2_with fail
  generalize (w.alloc (.cells #[.bool s, .slice x n c, .slice y m e] 32)).alloc (.cells #[.bool false, .slice none 0 0, .slice none 0 0] 32) = w1 at *
  have HR := hid h5; have HW := hid h3; have BX := hid h1; have OB := hid h2
  clear h1 h2 h3 h5
  have c1 := rForm_c (s := s) HR.out (by omega) (by omega)
  rw [hp] at c1
  refine c1.mono ?_
  rintro en w2 ⟨rfl, hb⟩
  have HB := hid (HW.out.trans (hb.mono HW.out.size))
  obtain ⟨hz, z0, z1, z2, zf⟩ := OB.out.below hb
  clear c1 hb hp
  go_wp2
  exact bodyPost_ret (v := .tuple #[.agg #[.bool false, .slice none 0 0, .slice none 0 0], .int .i64 3]) (by simp [results, Tryz.results54, go_sem, z0, z1, z2]) rfl ⟨rfl, below_st HB.out (by omega)⟩

end Go.Proofs.YtclopblgdiahiaaGreatDoor
namespace Go.Proofs.YtclopblgdiahiaaGreatDoor
open Go.RowKit

theorem zIntE_c {w : World} {z : Int} (h0 : -9223372036854775808 ≤ z) (h1 : z ≤ 9223372036854775807) :
    Calls Tryz.prog 83 #[.int .i64 z] w fun e w' => ∃ s x n c d, e = .returned (.agg #[.bool s, .slice x n c]) ∧ Below w.heap.size w w' ∧ Hid (n ≤ 2 ∧ Zn w' s x n d z) := by
  refine (zInt_c z w h0 h1).mono ?_
  rintro e w' ⟨s, x, n, c, d, rfl, h⟩
  have h2 := vd_nonneg h.dg
  have hv := h.val
  cases s
  · have hv' : vd d n = z := hv
    exact ⟨false, x, n, c, d, rfl, h.bel, h.le, ⟨h.rd, h.dg, h.fm, by omega⟩, by show z = (z.natAbs : Int); omega, h.sgn⟩
  · have hv' : - vd d n = z := hv
    exact ⟨true, x, n, c, d, rfl, h.bel, h.le, ⟨h.rd, h.dg, h.fm, by omega⟩, by show z = -(z.natAbs : Int); omega, h.sgn⟩

set_option maxRecDepth 100000 in
set_option maxHeartbeats 4000000 in
theorem qInt_c {w : World} {z : Int} (h0 : -9223372036854775808 ≤ z) (h1 : z ≤ 9223372036854775807) :
    Calls Tryz.prog 101 #[.int .i64 z] w fun e w' => QAns 2 w w' e (z : Rat) := by
  have h2 := ob_new w 84
  have h3 := below_alloc (Below.refl w.heap.size w) (.cells #[.bool false, .slice none 0 0, .slice none 0 0] 84)
  go_enter Tryz.func101, Tryz.ntmps101
  go_wp2_with fail
  generalize w.alloc (.cells #[.bool false, .slice none 0 0, .slice none 0 0] 84) = w1 at *
  have OB := hid h2; have HW := hid h3
  clear h2 h3
  refine (zIntE_c h0 h1).mono ?_
  rintro e w2 ⟨s2, x2, n2, c2, d2, rfl, hb, H2⟩
  have HB2 := hid hb
  clear hb
  go_wp2_with fail
  refine (dWord_c (V := 1) (by decide)).mono ?_
  rintro e w3 ⟨z3, k3, c3, d3, rfl, hb, H3⟩
  have HB3 := hid (HB2.out.trans (hb.mono HB2.out.size)); have Z3 := hid (H2.out.2.below hb)
  have hk3 := H3.out.1; have hn2 := H2.out.1
  clear hb
  obtain ⟨hz, z0, z1, z2, zf⟩ := OB.out.below HB3.out
  go_wp2
  refine bodyPost_ret (v := .agg #[.bool s2, .slice x2 n2 c2, .slice z3 k3 c3]) (by simp [results, Tryz.results101, go_sem, z0, z1, z2]) rfl ⟨s2, x2, n2, c2, d2, z3, k3, c3, d3, rfl, below_st (HW.out.trans (HB3.out.mono HW.out.size)) (by omega), by omega, by omega, (OB.out.below HB3.out).qn ⟨?_, ?_⟩⟩
  · rw [Rat.num_intCast]; exact Z3.out
  · rw [Rat.den_intCast]; exact H3.out.2

set_option maxRecDepth 100000 in
set_option maxHeartbeats 4000000 in
theorem docOfQ_c {w : World} {z : Int} (h0 : -9223372036854775808 ≤ z) (h1 : z ≤ 9223372036854775807) :
    Calls Tryz.prog 57 #[.int .i64 z] w fun e w' => RatAns 4 w w' e (z : Rat) := by
  have h2 := ob_new w 32
  have h3 := below_alloc (Below.refl w.heap.size w) (.cells #[.bool false, .slice none 0 0, .slice none 0 0] 32)
  go_enter Tryz.func57, Tryz.ntmps57
  go_wp2_with fail
  generalize w.alloc (.cells #[.bool false, .slice none 0 0, .slice none 0 0] 32) = w1 at *
  have OB := hid h2; have HW := hid h3
  clear h2 h3
  refine (qInt_c h0 h1).mono ?_
  rintro e w2 ⟨s2, x2, n2, c2, d2, y2, m2, e2, g2, rfl, hb, hl1, hl2, hq⟩
  have HB2 := hid hb; have HQ := hid hq
  clear hb hq
  go_wp2_with fail
  refine (qToR_c HQ.out (by omega) (by omega)).mono ?_
  rintro e w3 ⟨z3, k3, c3, f3, y3, m3, e3, g3, rfl, hb, R3⟩
  have HB3 := hid (HB2.out.trans (hb.mono HB2.out.size))
  clear hb
  obtain ⟨hz, z0, z1, z2, zf⟩ := OB.out.below HB3.out
  go_wp2
  exact bodyPost_ret (v := .agg #[.bool s2, .slice z3 k3 c3, .slice y3 m3 e3]) (by simp [results, Tryz.results57, go_sem, z0, z1, z2]) rfl ⟨s2, z3, k3, c3, f3, y3, m3, e3, g3, rfl, below_st (HW.out.trans (HB3.out.mono HW.out.size)) (by omega), (OB.out.below HB3.out).rn (R3.out.mono (by omega))⟩
end Go.Proofs.YtclopblgdiahiaaGreatDoor
namespace Go.Proofs.YtclopblgdiahiaaGreatDoor
open Go.RowKit

/-- The two numbers as the reference holds them. -/
structure WAt (w1 wx : World) (b8 b9 : Nat) (s5 : Bool) (x5 : Option Addr) (n5 c5 : Nat) (d5 : Nat → Int) (y5 : Option Addr) (m5 e5 : Nat) (g5 : Nat → Int) (s6 : Bool) (x6 : Option Addr) (n6 c6 : Nat) (d6 : Nat → Int) (y6 : Option Addr) (m6 e6 : Nat) (g6 : Nat → Int) (qa qb : Rat) : Prop where
  bx : Bx3 wx b8 (.bool s5) (.slice x5 n5 c5) (.slice y5 m5 e5)
  by' : Bx3 wx b9 (.bool s6) (.slice x6 n6 c6) (.slice y6 m6 e6)
  bel : Below w1.heap.size w1 wx
  za : Qn wx s5 x5 n5 d5 y5 m5 g5 qa
  zb : Qn wx s6 x6 n6 d6 y6 m6 g6 qb
  l5 : n5 ≤ 200 ∧ m5 ≤ 200
  l6 : n6 ≤ 200 ∧ m6 ≤ 200
theorem size_st3 (w : World) (B : Nat) (u0 u1 u2 : Value) : (((w.setCell ⟨B, 0, none⟩ u0).setCell ⟨B, 1, none⟩ u1).setCell ⟨B, 2, none⟩ u2).heap.size = w.heap.size := by simp [World.setCell]
theorem Ob.put {w B} (h : Ob w B) (u0 u1 u2 : Value) : Bx3 (((w.setCell ⟨B, 0, none⟩ u0).setCell ⟨B, 1, none⟩ u1).setCell ⟨B, 2, none⟩ u2) B u0 u1 u2 :=
  ⟨by rw [size_st3]; exact h.z, kCo (by decide) (kCo (by decide) (kCe (kI0 h.z0))), kCo (by decide) (kCe (kIs (kI0 h.z1))), kCe (kIs (kIs (kI0 h.z2)))⟩
theorem Ob.far {w B B' u0 u1 u2} (h : Ob w B) (hB : B' ≠ B) : Ob (((w.setCell ⟨B', 0, none⟩ u0).setCell ⟨B', 1, none⟩ u1).setCell ⟨B', 2, none⟩ u2) B := ⟨by rw [size_st3]; exact h.z, kCs hB (kCs hB (kCs hB h.z0)), kCs hB (kCs hB (kCs hB h.z1)), kCs hB (kCs hB (kCs hB h.z2)), fun o => kFs (kFs (kFs (h.zf o)))⟩
theorem Bx3.far {w B B' u0 u1 u2 a0 a1 a2} (h : Bx3 w B a0 a1 a2) (hB : B' ≠ B) : Bx3 (((w.setCell ⟨B', 0, none⟩ u0).setCell ⟨B', 1, none⟩ u1).setCell ⟨B', 2, none⟩ u2) B a0 a1 a2 := ⟨by rw [size_st3]; exact h.z, kCs hB (kCs hB (kCs hB h.x0)), kCs hB (kCs hB (kCs hB h.x1)), kCs hB (kCs hB (kCs hB h.x2))⟩
theorem bx3_next (w : World) (o : Obj) (a0 a1 a2 : Value) (t : TypeId) : Bx3 ((w.alloc o).alloc (.cells #[a0, a1, a2] t)) (w.heap.size + 1) a0 a1 a2 := by
  have := bx3_at (w.alloc o) a0 a1 a2 t
  rw [size_alloc1] at this; exact this
theorem bx3_st (w : World) (B : Nat) (u0 u1 u2 a0 a1 a2 : Value) (t : TypeId) : Bx3 ((((w.setCell ⟨B, 0, none⟩ u0).setCell ⟨B, 1, none⟩ u1).setCell ⟨B, 2, none⟩ u2).alloc (.cells #[a0, a1, a2] t)) w.heap.size a0 a1 a2 := by
  have := bx3_at (((w.setCell ⟨B, 0, none⟩ u0).setCell ⟨B, 1, none⟩ u1).setCell ⟨B, 2, none⟩ u2) a0 a1 a2 t
  rw [size_st3] at this; exact this
theorem ob_at {w : World} {t : TypeId} {B : Nat} (h : B = w.heap.size) : Ob (w.alloc (.cells #[.bool false, .slice none 0 0, .slice none 0 0] t)) B := by subst h; exact ob_new w t
theorem kObA {w : World} {B : Nat} {o : Obj} (h : Ob w B) : Ob (w.alloc o) B := h.alloc o
theorem kQa {w s x n d y m g q} {o : Obj} (h : Qn w s x n d y m g q) : Qn (w.alloc o) s x n d y m g q := h.alloc o
theorem wat_aa {w1 v : World} {s5 : Bool} {x5 : Option Addr} {n5 c5 : Nat} {d5 : Nat → Int} {y5 : Option Addr} {m5 e5 : Nat} {g5 : Nat → Int} {s6 : Bool} {x6 : Option Addr} {n6 c6 : Nat} {d6 : Nat → Int} {y6 : Option Addr} {m6 e6 : Nat} {g6 : Nat → Int} {qa qb : Rat} {t : TypeId} (hb : Below w1.heap.size w1 v) (h5 : n5 ≤ 200 ∧ m5 ≤ 200 ∧ Qn v s5 x5 n5 d5 y5 m5 g5 qa) (h6 : n6 ≤ 200 ∧ m6 ≤ 200 ∧ Qn v s6 x6 n6 d6 y6 m6 g6 qb) : WAt w1 ((v.alloc (.cells #[.bool s5, .slice x5 n5 c5, .slice y5 m5 e5] t)).alloc (.cells #[.bool s6, .slice x6 n6 c6, .slice y6 m6 e6] t)) v.heap.size (v.heap.size + 1) s5 x5 n5 c5 d5 y5 m5 e5 g5 s6 x6 n6 c6 d6 y6 m6 e6 g6 qa qb :=
  ⟨(bx3_at _ _ _ _ _).alloc _, bx3_next _ _ _ _ _ _, below_alloc (below_alloc hb _) _, (h5.2.2.alloc _).alloc _, (h6.2.2.alloc _).alloc _, ⟨h5.1, h5.2.1⟩, ⟨h6.1, h6.2.1⟩⟩
theorem wat_ab {w1 v : World} {s5 : Bool} {x5 : Option Addr} {n5 c5 : Nat} {d5 : Nat → Int} {y5 : Option Addr} {m5 e5 : Nat} {g5 : Nat → Int} {s6 : Bool} {x6 : Option Addr} {n6 c6 : Nat} {d6 : Nat → Int} {y6 : Option Addr} {m6 e6 : Nat} {g6 : Nat → Int} {qa qb : Rat} {t : TypeId} (hb : Below w1.heap.size w1 v) (h5 : n5 ≤ 200 ∧ m5 ≤ 200 ∧ Qn v s5 x5 n5 d5 y5 m5 g5 qa) (h6 : n6 ≤ 200 ∧ m6 ≤ 200 ∧ Qn v s6 x6 n6 d6 y6 m6 g6 qb) : WAt w1 ((v.alloc (.cells #[.bool s6, .slice x6 n6 c6, .slice y6 m6 e6] t)).alloc (.cells #[.bool s5, .slice x5 n5 c5, .slice y5 m5 e5] t)) (v.heap.size + 1) v.heap.size s5 x5 n5 c5 d5 y5 m5 e5 g5 s6 x6 n6 c6 d6 y6 m6 e6 g6 qa qb :=
  ⟨bx3_next _ _ _ _ _ _, (bx3_at _ _ _ _ _).alloc _, below_alloc (below_alloc hb _) _, (h5.2.2.alloc _).alloc _, (h6.2.2.alloc _).alloc _, ⟨h5.1, h5.2.1⟩, ⟨h6.1, h6.2.1⟩⟩
theorem wat_sa {w1 v : World} {s5 : Bool} {x5 : Option Addr} {n5 c5 : Nat} {d5 : Nat → Int} {y5 : Option Addr} {m5 e5 : Nat} {g5 : Nat → Int} {s6 : Bool} {x6 : Option Addr} {n6 c6 : Nat} {d6 : Nat → Int} {y6 : Option Addr} {m6 e6 : Nat} {g6 : Nat → Int} {qa qb : Rat} {b8 : Nat} {t : TypeId} (hb : Below w1.heap.size w1 v) (h5 : n5 ≤ 200 ∧ m5 ≤ 200 ∧ Qn v s5 x5 n5 d5 y5 m5 g5 qa) (h6 : n6 ≤ 200 ∧ m6 ≤ 200 ∧ Qn v s6 x6 n6 d6 y6 m6 g6 qb) (h8 : Ob v b8) (o8 : w1.heap.size ≤ b8) : WAt w1 (((((v).setCell ⟨b8, 0, none⟩ (.bool s5)).setCell ⟨b8, 1, none⟩ (.slice x5 n5 c5)).setCell ⟨b8, 2, none⟩ (.slice y5 m5 e5)).alloc (.cells #[.bool s6, .slice x6 n6 c6, .slice y6 m6 e6] t)) b8 v.heap.size s5 x5 n5 c5 d5 y5 m5 e5 g5 s6 x6 n6 c6 d6 y6 m6 e6 g6 qa qb :=
  ⟨(h8.put _ _ _).alloc _, bx3_st _ _ _ _ _ _ _ _ _, below_alloc (below_st hb o8) _, (h8.qn h5.2.2).alloc _, (h8.qn h6.2.2).alloc _, ⟨h5.1, h5.2.1⟩, ⟨h6.1, h6.2.1⟩⟩
theorem wat_as {w1 v : World} {s5 : Bool} {x5 : Option Addr} {n5 c5 : Nat} {d5 : Nat → Int} {y5 : Option Addr} {m5 e5 : Nat} {g5 : Nat → Int} {s6 : Bool} {x6 : Option Addr} {n6 c6 : Nat} {d6 : Nat → Int} {y6 : Option Addr} {m6 e6 : Nat} {g6 : Nat → Int} {qa qb : Rat} {b9 : Nat} {t : TypeId} (hb : Below w1.heap.size w1 v) (h5 : n5 ≤ 200 ∧ m5 ≤ 200 ∧ Qn v s5 x5 n5 d5 y5 m5 g5 qa) (h6 : n6 ≤ 200 ∧ m6 ≤ 200 ∧ Qn v s6 x6 n6 d6 y6 m6 g6 qb) (h9 : Ob v b9) (o9 : w1.heap.size ≤ b9) : WAt w1 (((((v).setCell ⟨b9, 0, none⟩ (.bool s6)).setCell ⟨b9, 1, none⟩ (.slice x6 n6 c6)).setCell ⟨b9, 2, none⟩ (.slice y6 m6 e6)).alloc (.cells #[.bool s5, .slice x5 n5 c5, .slice y5 m5 e5] t)) v.heap.size b9 s5 x5 n5 c5 d5 y5 m5 e5 g5 s6 x6 n6 c6 d6 y6 m6 e6 g6 qa qb :=
  ⟨bx3_st _ _ _ _ _ _ _ _ _, (h9.put _ _ _).alloc _, below_alloc (below_st hb o9) _, (h9.qn h5.2.2).alloc _, (h9.qn h6.2.2).alloc _, ⟨h5.1, h5.2.1⟩, ⟨h6.1, h6.2.1⟩⟩
theorem wat_ss {w1 v : World} {s5 : Bool} {x5 : Option Addr} {n5 c5 : Nat} {d5 : Nat → Int} {y5 : Option Addr} {m5 e5 : Nat} {g5 : Nat → Int} {s6 : Bool} {x6 : Option Addr} {n6 c6 : Nat} {d6 : Nat → Int} {y6 : Option Addr} {m6 e6 : Nat} {g6 : Nat → Int} {qa qb : Rat} {b8 b9 : Nat} (hb : Below w1.heap.size w1 v) (h5 : n5 ≤ 200 ∧ m5 ≤ 200 ∧ Qn v s5 x5 n5 d5 y5 m5 g5 qa) (h6 : n6 ≤ 200 ∧ m6 ≤ 200 ∧ Qn v s6 x6 n6 d6 y6 m6 g6 qb) (h8 : Ob v b8) (o8 : w1.heap.size ≤ b8) (h9 : Ob v b9) (o9 : w1.heap.size ≤ b9) (hne : b9 ≠ b8) : WAt w1 (((((((v).setCell ⟨b8, 0, none⟩ (.bool s5)).setCell ⟨b8, 1, none⟩ (.slice x5 n5 c5)).setCell ⟨b8, 2, none⟩ (.slice y5 m5 e5)).setCell ⟨b9, 0, none⟩ (.bool s6)).setCell ⟨b9, 1, none⟩ (.slice x6 n6 c6)).setCell ⟨b9, 2, none⟩ (.slice y6 m6 e6)) b8 b9 s5 x5 n5 c5 d5 y5 m5 e5 g5 s6 x6 n6 c6 d6 y6 m6 e6 g6 qa qb :=
  ⟨(h8.put _ _ _).far hne, (h9.far hne.symm).put _ _ _, below_st (below_st hb o8) o9, (h9.far hne.symm).qn (h8.qn h5.2.2), (h9.far hne.symm).qn (h8.qn h6.2.2), ⟨h5.1, h5.2.1⟩, ⟨h6.1, h6.2.1⟩⟩
def kq (kind : Nat) (a b : Rat) : Rat := if kind = 0 then a + b else if kind = 1 then a - b else if kind = 2 then a * b else a / b
/-- What Doc answers, of numbers in form. -/
def DocQ (kind : Nat) (qa qb : Rat) (w w' : World) (en : Ending) : Prop := ∃ s x n c f y m d g er, en = .returned (.tuple #[.agg #[.bool s, .slice x n c, .slice y m d], .int .i64 er]) ∧ Below w.heap.size w w' ∧ ((kind = 3 ∧ qb.num = 0) ∧ er = 4 ∧ n = 0 ∧ m = 0 ∧ s = false ∨ ¬ (kind = 3 ∧ qb.num = 0) ∧ er = 0 ∧ Rn 2000 w' s x n c f y m d g (kq kind qa qb))

end Go.Proofs.YtclopblgdiahiaaGreatDoor
namespace Go.Proofs.YtclopblgdiahiaaGreatDoor
open Go.RowKit

/-- What a call of the four kinds answers. -/
def OQ (p : Bool) (kind : Nat) (qa qb : Rat) (w' : World) (s : Bool) (x : Option Addr) (n c : Nat) (f : Nat → Int) (y : Option Addr) (m d : Nat) (g : Nat → Int) (er : Int) : Prop :=
  p = false ∧ er = 3 ∧ n = 0 ∧ m = 0 ∧ s = false ∨ p = true ∧ (kind = 3 ∧ qb.num = 0) ∧ er = 4 ∧ n = 0 ∧ m = 0 ∧ s = false ∨ p = true ∧ ¬ (kind = 3 ∧ qb.num = 0) ∧ er = 0 ∧ Rn 2000 w' s x n c f y m d g (kq kind qa qb)
theorem OQ.st {p kind qa qb w' s x n c f y m d g er B u0 u1 u2} (h : OQ p kind qa qb w' s x n c f y m d g er) (hB : Ob w' B) : OQ p kind qa qb (((w'.setCell ⟨B, 0, none⟩ u0).setCell ⟨B, 1, none⟩ u1).setCell ⟨B, 2, none⟩ u2) s x n c f y m d g er := by
  rcases h with h | h | ⟨h1, h2, h3, h4⟩
  · exact .inl h
  · exact .inr (.inl h)
  · exact .inr (.inr ⟨h1, h2, h3, hB.rn h4⟩)
theorem Rn.num_zero {L w s x n c f y m d g q} (h : Rn L w s x n c f y m d g q) : q.num = 0 ↔ n = 0 := by
  constructor
  · intro h0
    rcases Nat.eq_zero_or_pos n with hn | hn
    · exact hn
    · have h1 := vf_pos h.num.lm (fm_of_wfB h.num.wf) hn
      have h2 := h.num.val
      cases s
      · rw [wv_false] at h2; omega
      · rw [wv_true] at h2; omega
  · intro hn
    subst hn
    have h2 := h.num.val
    cases s
    · rw [wv_false] at h2; exact h2.symm
    · rw [wv_true] at h2; have : -(0 : Int) = q.num := h2; omega

set_option maxRecDepth 100000 in
set_option maxHeartbeats 4000000 in
theorem rQuoZero_c {w : World} {sa : Bool} {xa : Option Addr} {na ca : Nat} {fa : Nat → Int} {ya : Option Addr} {ma ea : Nat} {ga : Nat → Int} {sb : Bool} {xb : Option Addr} {nb cb : Nat} {fb : Nat → Int} {yb : Option Addr} {mb eb : Nat} {gb : Nat → Int} (ha : Rw w xa na ca fa ya ma ea ga) (hb : Rw w xb nb cb fb yb mb eb gb) (hna : na ≤ 1000) (hma : ma ≤ 1000) (hnb : nb ≤ 1000) (hmb : mb ≤ 1000) (hpa : rfB sa fa na ga ma = true) (hpb : rfB sb fb nb gb mb = true) (hn0 : nb = 0) :
    Calls Tryz.prog 53 #[.agg #[.bool sa, .slice xa na ca, .slice ya ma ea], .agg #[.bool sb, .slice xb nb cb, .slice yb mb eb]] w fun en w' => en = .returned (.tuple #[.agg #[.bool false, .slice none 0 0, .slice none 0 0], .int .i64 4]) ∧ Below w.heap.size w w' := by
  have hnd : ((nb : Int) == 0) = true := by simp; omega
  clear hn0
  obtain ⟨h1, h2, h3, h4⟩ := qbox2 (w := w) (.bool sa) (.slice xa na ca) (.slice ya ma ea) (.bool sb) (.slice xb nb cb) (.slice yb mb eb) 32
  have h5 := ha.below h4
  have h6 := hb.below h4
  clear ha hb
  go_enter Tryz.func53, Tryz.ntmps53
  go_wp2_with fail
  generalize ((w.alloc (.cells #[.bool sa, .slice xa na ca, .slice ya ma ea] 32)).alloc (.cells #[.bool sb, .slice xb nb cb, .slice yb mb eb] 32)).alloc (.cells #[.bool false, .slice none 0 0, .slice none 0 0] 32) = w1 at *
  have HRA := hid h5; have HRB := hid h6; have HW := hid h4; have BA := hid h1; have BB := hid h2; have OB := hid h3
  clear h1 h2 h3 h4 h5 h6
  have c1 := rForm_c (s := sa) HRA.out (by omega) (by omega)
  rw [hpa] at c1
  refine c1.mono ?_
  rintro en w2 ⟨rfl, hb⟩
  have HB2 := hid hb
  clear c1 hb
  obtain ⟨zb, b0, b1, b2⟩ := BB.out.below HB2.out
  have c2 := rForm_c (s := sb) (HRB.out.below HB2.out) (by omega) (by omega)
  rw [hpb] at c2
  go_wp2_with fail
  refine c2.mono ?_
  rintro en w3 ⟨rfl, hb⟩
  have HB3 := hid (HB2.out.trans (hb.mono HB2.out.size))
  have HB := hid (HW.out.trans (HB3.out.mono HW.out.size))
  clear c2 hb zb b0 b1 b2
  obtain ⟨zb, b0, b1, b2⟩ := BB.out.below HB3.out
  obtain ⟨hz, z0, z1, z2, zf⟩ := OB.out.below HB3.out
  go_wp2
  exact bodyPost_ret (v := .tuple #[.agg #[.bool false, .slice none 0 0, .slice none 0 0], .int .i64 4]) (by simp [results, Tryz.results53, go_sem, z0, z1, z2]) rfl ⟨rfl, below_st HB.out (by omega)⟩
theorem rAdd_g {w : World} {sa : Bool} {xa : Option Addr} {na ca : Nat} {fa : Nat → Int} {ya : Option Addr} {ma ea : Nat} {ga : Nat → Int} {sb : Bool} {xb : Option Addr} {nb cb : Nat} {fb : Nat → Int} {yb : Option Addr} {mb eb : Nat} {gb : Nat → Int} (ha : Rw w xa na ca fa ya ma ea ga) (hb : Rw w xb nb cb fb yb mb eb gb) (hna : na ≤ 1000) (hma : ma ≤ 1000) (hnb : nb ≤ 1000) (hmb : mb ≤ 1000) {qa qb : Rat} {pa pb : Bool} (hpa : rfB sa fa na ga ma = pa) (hpb : rfB sb fb nb gb mb = pb) (hqa : pa = true → Rn 100 w sa xa na ca fa ya ma ea ga qa) (hqb : pb = true → Rn 100 w sb xb nb cb fb yb mb eb gb qb) :
    Calls Tryz.prog 45 #[.agg #[.bool sa, .slice xa na ca, .slice ya ma ea], .agg #[.bool sb, .slice xb nb cb, .slice yb mb eb]] w fun en w' => ∃ s x n c f y m d g er, en = .returned (.tuple #[.agg #[.bool s, .slice x n c, .slice y m d], .int .i64 er]) ∧ Below w.heap.size w w' ∧ OQ (pa && pb) 0 qa qb w' s x n c f y m d g er := by
  cases hp : (pa && pb)
  · exact (rAddErr_c ha hb hna hma hnb hmb (by rw [hpa, hpb]; exact hp)).mono (fun _ _ ⟨k1, k2⟩ => ⟨false, none, 0, 0, fun _ => 0, none, 0, 0, fun _ => 0, 3, k1, k2, .inl ⟨rfl, rfl, rfl, rfl, rfl⟩⟩)
  · have hpp : pa = true ∧ pb = true := by simpa using hp
    exact (rAdd_n (hqa hpp.1) (hqb hpp.2) (by omega)).mono (fun _ _ ⟨s, x, n, c, f, y, m, d, g, k1, k2, k3⟩ => ⟨s, x, n, c, f, y, m, d, g, 0, k1, k2, .inr (.inr ⟨rfl, fun h => by omega, rfl, k3.mono (by omega)⟩)⟩)
theorem rSub_g {w : World} {sa : Bool} {xa : Option Addr} {na ca : Nat} {fa : Nat → Int} {ya : Option Addr} {ma ea : Nat} {ga : Nat → Int} {sb : Bool} {xb : Option Addr} {nb cb : Nat} {fb : Nat → Int} {yb : Option Addr} {mb eb : Nat} {gb : Nat → Int} (ha : Rw w xa na ca fa ya ma ea ga) (hb : Rw w xb nb cb fb yb mb eb gb) (hna : na ≤ 1000) (hma : ma ≤ 1000) (hnb : nb ≤ 1000) (hmb : mb ≤ 1000) {qa qb : Rat} {pa pb : Bool} (hpa : rfB sa fa na ga ma = pa) (hpb : rfB sb fb nb gb mb = pb) (hqa : pa = true → Rn 100 w sa xa na ca fa ya ma ea ga qa) (hqb : pb = true → Rn 100 w sb xb nb cb fb yb mb eb gb qb) :
    Calls Tryz.prog 51 #[.agg #[.bool sa, .slice xa na ca, .slice ya ma ea], .agg #[.bool sb, .slice xb nb cb, .slice yb mb eb]] w fun en w' => ∃ s x n c f y m d g er, en = .returned (.tuple #[.agg #[.bool s, .slice x n c, .slice y m d], .int .i64 er]) ∧ Below w.heap.size w w' ∧ OQ (pa && pb) 1 qa qb w' s x n c f y m d g er := by
  cases hp : (pa && pb)
  · exact (rSubErr_c ha hb hna hma hnb hmb (by rw [hpa, hpb]; exact hp)).mono (fun _ _ ⟨k1, k2⟩ => ⟨false, none, 0, 0, fun _ => 0, none, 0, 0, fun _ => 0, 3, k1, k2, .inl ⟨rfl, rfl, rfl, rfl, rfl⟩⟩)
  · have hpp : pa = true ∧ pb = true := by simpa using hp
    exact (rSub_n (hqa hpp.1) (hqb hpp.2) (by omega)).mono (fun _ _ ⟨s, x, n, c, f, y, m, d, g, k1, k2, k3⟩ => ⟨s, x, n, c, f, y, m, d, g, 0, k1, k2, .inr (.inr ⟨rfl, fun h => by omega, rfl, k3.mono (by omega)⟩)⟩)
theorem rMul_g {w : World} {sa : Bool} {xa : Option Addr} {na ca : Nat} {fa : Nat → Int} {ya : Option Addr} {ma ea : Nat} {ga : Nat → Int} {sb : Bool} {xb : Option Addr} {nb cb : Nat} {fb : Nat → Int} {yb : Option Addr} {mb eb : Nat} {gb : Nat → Int} (ha : Rw w xa na ca fa ya ma ea ga) (hb : Rw w xb nb cb fb yb mb eb gb) (hna : na ≤ 1000) (hma : ma ≤ 1000) (hnb : nb ≤ 1000) (hmb : mb ≤ 1000) {qa qb : Rat} {pa pb : Bool} (hpa : rfB sa fa na ga ma = pa) (hpb : rfB sb fb nb gb mb = pb) (hqa : pa = true → Rn 100 w sa xa na ca fa ya ma ea ga qa) (hqb : pb = true → Rn 100 w sb xb nb cb fb yb mb eb gb qb) :
    Calls Tryz.prog 52 #[.agg #[.bool sa, .slice xa na ca, .slice ya ma ea], .agg #[.bool sb, .slice xb nb cb, .slice yb mb eb]] w fun en w' => ∃ s x n c f y m d g er, en = .returned (.tuple #[.agg #[.bool s, .slice x n c, .slice y m d], .int .i64 er]) ∧ Below w.heap.size w w' ∧ OQ (pa && pb) 2 qa qb w' s x n c f y m d g er := by
  cases hp : (pa && pb)
  · exact (rMulErr_c ha hb hna hma hnb hmb (by rw [hpa, hpb]; exact hp)).mono (fun _ _ ⟨k1, k2⟩ => ⟨false, none, 0, 0, fun _ => 0, none, 0, 0, fun _ => 0, 3, k1, k2, .inl ⟨rfl, rfl, rfl, rfl, rfl⟩⟩)
  · have hpp : pa = true ∧ pb = true := by simpa using hp
    exact (rMul_n (hqa hpp.1) (hqb hpp.2) (by omega)).mono (fun _ _ ⟨s, x, n, c, f, y, m, d, g, k1, k2, k3⟩ => ⟨s, x, n, c, f, y, m, d, g, 0, k1, k2, .inr (.inr ⟨rfl, fun h => by omega, rfl, k3.mono (by omega)⟩)⟩)
theorem rQuo_g {w : World} {sa : Bool} {xa : Option Addr} {na ca : Nat} {fa : Nat → Int} {ya : Option Addr} {ma ea : Nat} {ga : Nat → Int} {sb : Bool} {xb : Option Addr} {nb cb : Nat} {fb : Nat → Int} {yb : Option Addr} {mb eb : Nat} {gb : Nat → Int} (ha : Rw w xa na ca fa ya ma ea ga) (hb : Rw w xb nb cb fb yb mb eb gb) (hna : na ≤ 1000) (hma : ma ≤ 1000) (hnb : nb ≤ 1000) (hmb : mb ≤ 1000) {qa qb : Rat} {pa pb : Bool} (hpa : rfB sa fa na ga ma = pa) (hpb : rfB sb fb nb gb mb = pb) (hqa : pa = true → Rn 100 w sa xa na ca fa ya ma ea ga qa) (hqb : pb = true → Rn 100 w sb xb nb cb fb yb mb eb gb qb) :
    Calls Tryz.prog 53 #[.agg #[.bool sa, .slice xa na ca, .slice ya ma ea], .agg #[.bool sb, .slice xb nb cb, .slice yb mb eb]] w fun en w' => ∃ s x n c f y m d g er, en = .returned (.tuple #[.agg #[.bool s, .slice x n c, .slice y m d], .int .i64 er]) ∧ Below w.heap.size w w' ∧ OQ (pa && pb) 3 qa qb w' s x n c f y m d g er := by
  cases hp : (pa && pb)
  · exact (rQuoErr_c ha hb hna hma hnb hmb (by rw [hpa, hpb]; exact hp)).mono (fun _ _ ⟨k1, k2⟩ => ⟨false, none, 0, 0, fun _ => 0, none, 0, 0, fun _ => 0, 3, k1, k2, .inl ⟨rfl, rfl, rfl, rfl, rfl⟩⟩)
  · have hpp : pa = true ∧ pb = true := by simpa using hp
    by_cases hz : nb = 0
    · exact (rQuoZero_c ha hb hna hma hnb hmb (by rw [hpa]; exact hpp.1) (by rw [hpb]; exact hpp.2) hz).mono (fun _ _ ⟨k1, k2⟩ => ⟨false, none, 0, 0, fun _ => 0, none, 0, 0, fun _ => 0, 4, k1, k2, .inr (.inl ⟨rfl, ⟨rfl, (hqb hpp.2).num_zero.2 hz⟩, rfl, rfl, rfl, rfl⟩)⟩)
    · exact (rQuo_n (hqa hpp.1) (hqb hpp.2) (by omega) (by omega)).mono (fun _ _ ⟨s, x, n, c, f, y, m, d, g, k1, k2, k3⟩ => ⟨s, x, n, c, f, y, m, d, g, 0, k1, k2, .inr (.inr ⟨rfl, fun h => hz ((hqb hpp.2).num_zero.1 h.2), rfl, k3.mono (by omega)⟩)⟩)

end Go.Proofs.YtclopblgdiahiaaGreatDoor
namespace Go.Proofs.YtclopblgdiahiaaGreatDoor
open Go.RowKit

set_option maxRecDepth 100000 in
set_option maxHeartbeats 4000000 in
theorem rOf_c {w : World} {z : Int} (h0 : -9223372036854775808 ≤ z) (h1 : z ≤ 9223372036854775807) :
    Calls Tryz.prog 55 #[.int .i64 z] w fun e w' => RatAns 4 w w' e (z : Rat) := by
  have h2 := ob_new w 32
  have h3 := below_alloc (Below.refl w.heap.size w) (.cells #[.bool false, .slice none 0 0, .slice none 0 0] 32)
  go_enter Tryz.func55, Tryz.ntmps55
  go_wp2_with fail
  generalize w.alloc (.cells #[.bool false, .slice none 0 0, .slice none 0 0] 32) = w1 at *
  have OB1 := hid h2; have HW1 := hid h3
  clear h2 h3
  refine (wOf_c z w1 h0 h1).mono ?_
  rintro e w2 ⟨s2, x2, n2, c2, f2, rfl, hr2, hv2⟩
  have hb := hr2.res.bel
  have hn2 := hr2.res.le
  have hw2 := (hr2.wn hv2).alloc (.cells #[.bool s2, .slice x2 n2 c2] 24)
  have hbx : Bx (w2.alloc (.cells #[.bool s2, .slice x2 n2 c2] 24)) w2.heap.size s2 x2 n2 c2 := ⟨by simp, kN0, kN1⟩
  have hob := (OB1.out.below hb).alloc (.cells #[.bool s2, .slice x2 n2 c2] 24)
  have hbw := below_alloc (HW1.out.trans (hb.mono HW1.out.size)) (.cells #[.bool s2, .slice x2 n2 c2] 24)
  have hB8 : w.heap.size < w2.heap.size := (OB1.out.below hb).z
  clear hr2 hv2 hb OB1 HW1
  go_wp2_with fail
  generalize w2.alloc (.cells #[.bool s2, .slice x2 n2 c2] 24) = w3 at *
  generalize w2.heap.size = b3 at *
  have W3 := hid hw2; have OB := hid hob; have HW := hid hbw
  obtain ⟨za, a0, a1⟩ := hbx
  obtain ⟨hz, z0, z1, z2, zf⟩ := hob
  clear hw2 hbw
  have C1 : Hid (∀ W : World, Calls Tryz.prog 96 #[] W fun e w' => ∃ x f, e = .returned (.slice x 1 1) ∧ Below W.heap.size W w' ∧ Hid (Wn w' false x 1 1 f 1)) := fun W => ratOne_c W
  have C2 : Hid (∀ (W : World) (y : Option Addr), Calls Tryz.prog 89 #[.bool s2, .slice x2 n2 c2, .slice y 1 1] W fun e w' => ∃ r, e = .returned (.agg #[.bool r, .slice x2 n2 c2, .slice y 1 1]) ∧ Below W.heap.size W w' ∧ Hid (r = (s2 && decide (0 < n2)))) := fun W y => (rsigned_c s2 x2 y n2 c2 1 1 W (by omega)).mono (fun _ _ ⟨r, k1, k2, k3⟩ => ⟨r, k1, k3, k2⟩)
  go_region_held3 (fun w' => w'.cell? ⟨b3, 0, none⟩ = some (.bool s2) ∧ w'.cell? ⟨b3, 1, none⟩ = some (.slice x2 n2 c2) ∧ (w'.cell? ⟨w.heap.size, 0, none⟩).isSome = true ∧ (w'.cell? ⟨w.heap.size, 1, none⟩).isSome = true ∧ (w'.cell? ⟨w.heap.size, 2, none⟩).isSome = true ∧ w'.frozen? ⟨w.heap.size, 0, none⟩ = false ∧ w'.frozen? ⟨w.heap.size, 1, none⟩ = false ∧ w'.frozen? ⟨w.heap.size, 2, none⟩ = false)
    (refine ⟨?_, ?_, ?_, ?_, ?_, ?_, ?_, ?_⟩ <;> repeat (with_reducible first | assumption | exact zf _ | exact tf _ | exact uf _ | exact kI0 z0 | exact kI0 z1 | exact kI0 z2 | exact kI0 t0 | exact kI0 t1 | exact kI0 t2 | exact kI0 u0 | exact kI0 u1 | exact kI0 u2 | refine kCd ?_ | refine kId ?_ | refine kFd ?_ | refine kCs (by simp only [ne_eq]; omega) ?_ | refine kIs ?_ | refine kFs ?_ | refine kCb (by assumption) ?_ | refine kIb (by assumption) ?_))
    (first
      | (go_at_call 96; with_reducible refine (C1.out _).mono ?_; rintro e v5 ⟨y5, f5, rfl, hb5, H5⟩; have Tt : Ob v5 (w.heap.size) := (by repeat (with_reducible first | exact OB.out | exact Tt | exact Tu | refine Ob.drew ?_ | refine kOb (by assumption) ?_)); obtain ⟨_, t0, t1, t2, tf⟩ := id Tt)
      | (go_at_call 89; with_reducible refine (C2.out _ y5).mono ?_; rintro e v6 ⟨r6, rfl, hb6, H6⟩; have Tu : Ob v6 (w.heap.size) := (by repeat (with_reducible first | exact OB.out | exact Tt | exact Tu | refine Ob.drew ?_ | refine kOb (by assumption) ?_)); obtain ⟨_, u0, u1, u2, uf⟩ := id Tu))
  all_goals
    have W5 : Wn v6 false y5 1 1 f5 1 := (by repeat (with_reducible first | exact H5.out | refine kWd ?_ | refine kWb (by assumption) ?_))
    have hb : Below w3.heap.size w3 v6 := (by repeat (with_reducible first | assumption | exact Below.refl _ _ | refine Below.drew ?_ | refine kBb (by assumption) ?_))
    have hr : r6 = s2 := by
      rw [H6.out]
      have := ((wfB_iff _ _ _).1 W3.out.wf).2
      cases s2
      · rfl
      · simp; exact this rfl
    subst hr
    go_wp2
    refine bodyPost_ret (v := .agg #[.bool r6, .slice x2 n2 c2, .slice y5 1 1]) (by simp [results, Tryz.results55, go_sem, u0, u1, u2]) rfl ⟨r6, x2, n2, c2, f2, y5, 1, 1, f5, rfl, below_st (HW.out.trans (hb.mono HW.out.size)) (Nat.le_refl _), Tu.rn ⟨?_, ?_, by omega, by omega⟩⟩
    · rw [Rat.num_intCast]; exact W3.out.below hb
    · rw [Rat.den_intCast]; exact W5
end Go.Proofs.YtclopblgdiahiaaGreatDoor
namespace Go.Proofs.YtclopblgdiahiaaGreatDoor
open Go.RowKit

theorem twinD_c {w : World} {x : Option Addr} {n c : Nat} {f : Nat → Int} (hr : Rd .u64 w x n f) (hn : n ≤ 100000) (hnil : x = none → n = 0 ∧ c = 0) :
    Calls Tryz.prog 38 #[.slice x n c] w fun e w' => ∃ z c', e = .returned (.slice z n c') ∧ Below w.heap.size w w' ∧ Hid (Rd .u64 w' z n f ∧ (n ≤ c' ∧ c' ≤ 9223372036854775807) ∧ (z = none → n = 0 ∧ c' = 0)) := by
  refine (twin_c x n c f w (by omega) hr hnil).mono ?_
  rintro e w' ⟨z, c', rfl, h2, h3, h4⟩
  obtain ⟨ao, cap, hv, k1, k2, k3, _, _⟩ := h4.shape
  cases hv
  exact ⟨z, c', rfl, h2, h3, ⟨k1, by unfold maxLen at k3; omega⟩, fun h => by have := k2 h; omega⟩
theorem kRdb {w w' : World} {x : Option Addr} {n : Nat} {f : Nat → Int} (hb : Below w.heap.size w w') (h : Rd .u64 w x n f) : Rd .u64 w' x n f := h.below hb (Nat.le_refl _)
theorem kRwd {w x n c f y m d g} (h : Rw w x n c f y m d g) : Rw w.drew x n c f y m d g := ⟨h.rx, h.lx, h.cx, h.nx, h.ry, h.ly, h.cy, h.ny⟩
theorem kRwb {w w' x n c f y m d g} (hb : Below w.heap.size w w') (h : Rw w x n c f y m d g) : Rw w' x n c f y m d g := h.below hb

set_option maxRecDepth 100000 in
set_option maxHeartbeats 8000000 in
theorem qTwin_c {w : World} {s : Bool} {x : Option Addr} {n c : Nat} {f : Nat → Int} {y : Option Addr} {m d : Nat} {g : Nat → Int} (h : Rw w x n c f y m d g) (hn : n ≤ 1000) (hm : m ≤ 1000) :
    Calls Tryz.prog 14 #[.agg #[.bool s, .slice x n c, .slice y m d]] w fun e w' => ∃ z c' z2 c2, e = .returned (.agg #[.bool s, .slice z n c', .slice z2 m c2]) ∧ Below w.heap.size w w' ∧ Hid (Rw w' z n c' f z2 m c2 g) := by
  obtain ⟨h1, h2, h3⟩ := qbox1 (w := w) (.bool s) (.slice x n c) (.slice y m d) 32 32
  have h4 := h.below h3
  clear h
  go_enter Tryz.func14, Tryz.ntmps14
  go_wp2_with fail
  generalize (w.alloc (.cells #[.bool s, .slice x n c, .slice y m d] 32)).alloc (.cells #[.bool false, .slice none 0 0, .slice none 0 0] 32) = w1 at *
  have HN := hid h4; have OB := hid h2; have HW := hid h3
  obtain ⟨z, x0, x1, x2⟩ := h1
  obtain ⟨hz, z0, z1, z2, zf⟩ := h2
  clear h3 h4
  have C1 : Hid (∀ W, Below w1.heap.size w1 W → Calls Tryz.prog 38 #[.slice x n c] W fun e w' => ∃ z c', e = .returned (.slice z n c') ∧ Below W.heap.size W w' ∧ Hid (Rd .u64 w' z n f ∧ (n ≤ c' ∧ c' ≤ 9223372036854775807) ∧ (z = none → n = 0 ∧ c' = 0))) := fun W hW => twinD_c (HN.out.below hW).rx (by omega) HN.out.nx
  have C2 : Hid (∀ W, Below w1.heap.size w1 W → Calls Tryz.prog 38 #[.slice y m d] W fun e w' => ∃ z c', e = .returned (.slice z m c') ∧ Below W.heap.size W w' ∧ Hid (Rd .u64 w' z m g ∧ (m ≤ c' ∧ c' ≤ 9223372036854775807) ∧ (z = none → m = 0 ∧ c' = 0))) := fun W hW => twinD_c (HN.out.below hW).ry (by omega) HN.out.ny
  go_region_held3 (fun w' => w'.cell? ⟨w.heap.size, 0, none⟩ = some (.bool s) ∧ w'.cell? ⟨w.heap.size, 1, none⟩ = some (.slice x n c) ∧ w'.cell? ⟨w.heap.size, 2, none⟩ = some (.slice y m d) ∧ (w'.cell? ⟨w.heap.size + 1, 0, none⟩).isSome = true ∧ (w'.cell? ⟨w.heap.size + 1, 1, none⟩).isSome = true ∧ (w'.cell? ⟨w.heap.size + 1, 2, none⟩).isSome = true ∧ w'.frozen? ⟨w.heap.size + 1, 0, none⟩ = false ∧ w'.frozen? ⟨w.heap.size + 1, 1, none⟩ = false ∧ w'.frozen? ⟨w.heap.size + 1, 2, none⟩ = false)
    (refine ⟨?_, ?_, ?_, ?_, ?_, ?_, ?_, ?_, ?_⟩ <;> repeat (with_reducible first | assumption | exact zf _ | exact tf _ | exact uf _ | exact kI0 z0 | exact kI0 z1 | exact kI0 z2 | exact kI0 t0 | exact kI0 t1 | exact kI0 t2 | exact kI0 u0 | exact kI0 u1 | exact kI0 u2 | refine kCd ?_ | refine kId ?_ | refine kFd ?_ | refine kCs (by simp only [ne_eq]; omega) ?_ | refine kIs ?_ | refine kFs ?_ | refine kCb (by assumption) ?_ | refine kIb (by assumption) ?_))
    (first
      | (go_at_call 38; with_reducible refine (C1.out _ (by repeat (with_reducible first | assumption | exact Below.refl _ _ | refine Below.drew ?_ | refine kBb (by assumption) ?_))).mono ?_; rintro e v5 ⟨z5, c5, rfl, hb5, H5⟩; have Tt : Ob v5 (w.heap.size + 1) := (by repeat (with_reducible first | exact OB.out | exact Tt | exact Tu | refine Ob.drew ?_ | refine kOb (by assumption) ?_)); obtain ⟨_, t0, t1, t2, tf⟩ := id Tt)
      | (go_at_call 38; with_reducible refine (C2.out _ (by repeat (with_reducible first | assumption | exact Below.refl _ _ | refine Below.drew ?_ | refine kBb (by assumption) ?_))).mono ?_; rintro e v6 ⟨z6, c6, rfl, hb6, H6⟩; have Tu : Ob v6 (w.heap.size + 1) := (by repeat (with_reducible first | exact OB.out | exact Tt | exact Tu | refine Ob.drew ?_ | refine kOb (by assumption) ?_)); obtain ⟨_, u0, u1, u2, uf⟩ := id Tu))
  all_goals
    have D5 : Rd .u64 v6 z5 n f := (by repeat (with_reducible first | exact H5.out.1 | refine Rd.drew ?_ | refine kRdb (by assumption) ?_))
    have hb : Below w1.heap.size w1 v6 := (by repeat (with_reducible first | assumption | exact Below.refl _ _ | refine Below.drew ?_ | refine kBb (by assumption) ?_))
    go_wp2
    exact bodyPost_ret (v := .agg #[.bool s, .slice z5 n c5, .slice z6 m c6]) (by simp [results, Tryz.results14, go_sem, u0, u1, u2]) rfl ⟨z5, c5, z6, c6, rfl, below_st (HW.out.trans (hb.mono HW.out.size)) (by omega), Tu.rd D5, HN.out.lx, H5.out.2.1, H5.out.2.2, Tu.rd H6.out.1, HN.out.ly, H6.out.2.1, H6.out.2.2⟩

/-- The same digits elsewhere. -/
theorem Rn.moved {L w s x n c f y m d g q w' z c' z2 c2} (h : Rn L w s x n c f y m d g q) (k : Rw w' z n c' f z2 m c2 g) : Rn L w' s z n c' f z2 m c2 g q :=
  ⟨⟨k.rx, k.lx, h.num.wf, k.cx, k.nx, h.num.val⟩, ⟨k.ry, k.ly, h.den.wf, k.cy, k.ny, h.den.val⟩, h.ln, h.ld⟩

end Go.Proofs.YtclopblgdiahiaaGreatDoor
namespace Go.Proofs.YtclopblgdiahiaaGreatDoor
open Go.RowKit

theorem cut42_c (w : World) : Calls Tryz.prog 95 #[.string ⟨#[52, 47, 50]⟩, .string ⟨#[47]⟩] w fun e w' => e = .returned (.tuple #[.string ⟨#[52]⟩, .string ⟨#[50]⟩, .bool true]) ∧ Below w.heap.size w w' := by
  have C1 : Hid (∀ W, Calls Tryz.prog 150 #[.string ⟨#[52, 47, 50]⟩, .string ⟨#[47]⟩] W fun e w' => e = .returned (.int .i64 1) ∧ w' = W) := fun W => Tryz.stringslite_Index_one ⟨#[52, 47, 50]⟩ 47 W
  have c2 : ∀ W, Calls Tryz.prog 129 #[.string ⟨#[52, 47, 50]⟩, .string ⟨#[47]⟩] W fun e w' => e = .returned (.tuple #[.string ⟨#[52]⟩, .string ⟨#[50]⟩, .bool true]) ∧ Below W.heap.size W w' := fun W => by
    go_enter Tryz.func129, Tryz.ntmps129
    go_wp2_with fail
    refine (C1.out _).mono ?_
    rintro e w1 ⟨rfl, rfl⟩
    go_wp2
    go_quiet (fail)
    go_wp2
    have e1 : (ByteArray.mk #[52, 47, 50]).extract 0 1 = ⟨#[52]⟩ := by decide +kernel
    have e2 : (ByteArray.mk #[52, 47, 50]).extract 2 3 = ⟨#[50]⟩ := by decide +kernel
    exact bodyPost_ret (v := .tuple #[.string ⟨#[52]⟩, .string ⟨#[50]⟩, .bool true]) (by simp [results, Tryz.results129, go_sem, e1, e2]) rfl ⟨rfl, below_drewN (Below.refl _ _) _⟩
  have C2 := hid c2
  clear c2 C1
  go_enter Tryz.func95, Tryz.ntmps95
  go_wp2_with fail
  refine (C2.out _).mono ?_
  rintro e w1 ⟨rfl, hb⟩
  go_wp2
  exact bodyPost_ret (v := .tuple #[.string ⟨#[52]⟩, .string ⟨#[50]⟩, .bool true]) (by simp [results, Tryz.results95, go_sem]) rfl ⟨rfl, hb⟩
theorem sb_4 : Sb ⟨#[52]⟩ 1 (fun _ => 52) := ⟨rfl, fun k h => by
  have hk : k < 1 := h
  obtain rfl : k = 0 := by omega
  rfl⟩
theorem sb_2 : Sb ⟨#[50]⟩ 1 (fun _ => 50) := ⟨rfl, fun k h => by
  have hk : k < 1 := h
  obtain rfl : k = 0 := by omega
  rfl⟩
theorem read_4 {r : Bool} {k : Nat} {f : Nat → Int} {er : Int} (h : WRead 1 (fun _ => 52) r k f er) : er = 0 ∧ wv r f k = 4 := by
  have hn : IsNum (fun _ => 52) 1 := ⟨(digB_iff _ _).1 (by decide), by decide, .inl rfl⟩
  have hd : dn (fun _ => 52) 1 = 4 := by decide
  rcases h with ⟨h1, _⟩ | ⟨_, _, h1, _⟩ | ⟨_, _, _, h1, h2⟩ | ⟨_, _, h1, _⟩
  · omega
  · exact absurd h1 (by decide)
  · rw [hd] at h2; exact ⟨h1, h2⟩
  · exact absurd ⟨fun h => absurd h.2 (by decide), hn⟩ h1
theorem read_2 {k : Nat} {f : Nat → Int} {er : Int} (h : ReadAns 1 (fun _ => 50) k f er) : er = 0 ∧ vf f k = 2 := by
  have hn : IsNum (fun _ => 50) 1 := ⟨(digB_iff _ _).1 (by decide), by decide, .inl rfl⟩
  have hd : dn (fun _ => 50) 1 = 2 := by decide
  rcases h with ⟨h1, _⟩ | ⟨_, h1, _⟩ | ⟨_, _, h1, h2⟩
  · omega
  · exact absurd hn h1
  · rw [hd] at h2; exact ⟨h1, h2⟩
theorem readDen2_c (w : World) : Calls Tryz.prog 97 #[.string ⟨#[50]⟩] w fun e w' => ∃ x k c f, e = .returned (.tuple #[.slice x k c, .int .i64 0]) ∧ Below w.heap.size w w' ∧ Wn w' false x k c f 2 := by
  go_enter Tryz.func97, Tryz.ntmps97
  go_wp2_with fail
  refine (Read_c ⟨#[50]⟩ 1 _ _ sb_2).mono ?_
  rintro e w1 ⟨x, k, c, f, er, rfl, hres, hans⟩
  have hr := hres.ans (by omega)
  obtain ⟨rfl, hv⟩ := read_2 hans
  have hb := hr.bel
  have hw : Wn w1 false x k c f 2 := ⟨hr.rd, hr.lm, (wfB_iff _ _ _).2 ⟨hr.fm, fun h => by cases h⟩, hr.ncap, hr.nil', hv⟩
  have C2 := hid (isOne_c hw); have HB := hid hb; have HW := hid hw
  clear hres hans hr hv hb hw
  go_wp2_with fail
  refine C2.out.mono ?_
  rintro e w2 ⟨rfl, rfl⟩
  have hd : decide ((2 : Int) = 1) = false := by decide
  rw [hd]
  go_wp2
  go_ret2
  exact ⟨x, k, c, f, rfl, HB.out, HW.out⟩
theorem rf_42 {s f n g m} (h1 : vf f n = 4) (h2 : vf g m = 2) : rfB s f n g m = false := by
  simp only [rfB, h1, h2]
  have : decide ((4 : Int).toNat.gcd (2 : Int).toNat = 1) = false := by decide
  rw [this]; simp
set_option maxRecDepth 100000 in
set_option maxHeartbeats 4000000 in
theorem read42_c (w : World) : Calls Tryz.prog 49 #[.string ⟨#[52, 47, 50]⟩] w fun e w' => ∃ s x n c y m d, e = .returned (.tuple #[.agg #[.bool s, .slice x n c, .slice y m d], .int .i64 11]) ∧ Below w.heap.size w w' := by
  have h3 := ob_new w 32
  have h4 := below_alloc (Below.refl w.heap.size w) (.cells #[.bool false, .slice none 0 0, .slice none 0 0] 32)
  have hsz : ((ByteArray.mk #[52, 47, 50]).size : Int) = 3 := by decide
  go_enter Tryz.func49, Tryz.ntmps49
  go_wp2_with fail
  generalize w.alloc (.cells #[.bool false, .slice none 0 0, .slice none 0 0] 32) = w1 at *
  have OB1 := hid h3; have HW1 := hid h4
  clear h3 h4
  refine (cut42_c _).mono ?_
  rintro e w2 ⟨rfl, hb⟩
  have OB2 := hid (OB1.out.below hb); have HW2 := hid (HW1.out.trans (hb.mono HW1.out.size))
  clear hb OB1 HW1
  go_wp2_with fail
  refine (wRead_c ⟨#[52]⟩ 1 _ _ sb_4 (by omega)).mono ?_
  rintro e w3 ⟨s3, x3, k3, c3, f3, er, rfl, hr, hans⟩
  obtain ⟨rfl, hv⟩ := read_4 hans
  have hb := hr.res.bel
  have WA3 := hid (hr.wn hv); have OB3 := hid (OB2.out.below hb); have HW3 := hid (HW2.out.trans (hb.mono HW2.out.size))
  clear hb hr hans hv OB2 HW2
  go_wp2_with fail
  refine (ratOne_c _).mono ?_
  rintro e w4 ⟨x4, f4, rfl, hb, _⟩
  have BA4 := hid (bx_new hb); have WA4 := hid (WA3.out.next hb); have OB4 := hid (OB3.out.next hb); have HW4 := hid ((below_alloc HW3.out _).trans (hb.mono (below_alloc HW3.out _).size))
  clear hb OB3 HW3 WA3
  go_wp2_with fail
  refine (readDen2_c _).mono ?_
  rintro e w5 ⟨x5, k5, c5, f5, rfl, hb, hd⟩
  have WD5 := hid hd; have BA5 := hid (BA4.out.below hb); have WA5 := hid (WA4.out.below hb); have OB5 := hid (OB4.out.below hb); have HW5 := hid (HW4.out.trans (hb.mono HW4.out.size))
  clear hb hd BA4 WA4 OB4 HW4
  obtain ⟨za, a0, a1⟩ := BA5.out
  go_wp2_with fail
  refine (rsigned_c s3 x3 x5 k3 c3 k5 c5 _ (by have := WA5.out.cap; omega)).mono ?_
  rintro e w6 ⟨r6, rfl, _, hb⟩
  have WD6 := hid (WD5.out.below hb); have WA6 := hid (WA5.out.below hb); have OB6 := hid (OB5.out.below hb); have HW6 := hid (HW5.out.trans (hb.mono HW5.out.size))
  clear hb za a0 a1 BA5 WA5 WD5 OB5 HW5
  have k3le := WA6.out.len1 (by decide)
  have k5le := WD6.out.len1 (by decide)
  have hrf : rfB r6 f3 k3 f5 k5 = false := by
    refine rf_42 ?_ WD6.out.nv
    have := WA6.out.mag.nv; exact this
  have HRF := hid hrf
  clear hrf
  go_wp2_with fail
  refine (rForm_c (s := r6) (⟨(WA6.out.alloc _).rd, WA6.out.lm, WA6.out.cap, WA6.out.nil, (WD6.out.alloc _).rd, WD6.out.lm, WD6.out.cap, WD6.out.nil⟩ : Rw _ x3 k3 c3 f3 x5 k5 c5 f5) (by omega) (by omega)).mono ?_
  rintro e w7 ⟨rfl, hb⟩
  rw [HRF.out]
  have OB7 := hid (OB6.out.next hb); have HW7 := hid ((below_alloc HW6.out _).trans (hb.mono (below_alloc HW6.out _).size))
  clear hb OB6 HW6 WA6 WD6
  obtain ⟨hz, z0, z1, z2, zf⟩ := OB7.out
  go_wp2
  exact bodyPost_ret (v := .tuple #[.agg #[.bool false, .slice none 0 0, .slice none 0 0], .int .i64 11]) (by simp [results, Tryz.results49, go_sem, z0, z1, z2]) rfl ⟨false, none, 0, 0, none, 0, 0, rfl, below_st HW7.out (Nat.le_refl _)⟩
end Go.Proofs.YtclopblgdiahiaaGreatDoor
